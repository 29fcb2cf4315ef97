import Derived.Test.YtfheinghkigocaaF04
import Derived.Test.YtfheinghkigocaaF03
import Derived.ProofKit
import Derived.OpenShut
import Derived.ShutString
import Derived.ChangeOld
import Derived.Below
import Derived.SizedLaws
import Derived.Deep.Slices
import Derived.Deep.Strs
namespace Go.Proofs.Ytfheinghkigocaa
open Go.RowKit
set_option linter.unusedSimpArgs false
set_option linter.unusedVariables false

theorem Try.in27 (w : World) (vs : Array Value) : (callFunc 27 vs).run Try.prog w = .ok (.enter 27 vs) w := by kernel_rfl
theorem Try.in28 (w : World) (vs : Array Value) : (callFunc 28 vs).run Try.prog w = .ok (.enter 28 vs) w := by kernel_rfl
theorem Try.in17 (w : World) (vs : Array Value) : (callFunc 17 vs).run Try.prog w = .ok (.enter 17 vs) w := by kernel_rfl
theorem Try.in18 (w : World) (vs : Array Value) : (callFunc 18 vs).run Try.prog w = .ok (.enter 18 vs) w := by kernel_rfl

theorem Own.below' {w w' : World} {v : Value} {l : List Int} (h : Own w v l) (hb : Below w.heap.size w w') : Own w' v l := h.grown (Grown.below (S := fun _ => False) hb) fun _ _ h => h
def Apt2 (u v : Value) : Prop := ∀ k, u.ownBlock = some k → v.ownBlock ≠ some k
def three {α : Type} (x y z : α) : Nat → α := fun i => if i = 0 then x else if i = 1 then y else z
/-- Three lists, grown. -/
theorem grown3_any (x y z : Value) (lx ly lz : List Int) (w wr : World) (hx : Own wr x lx) (hy : Own wr y ly) (hz : Own wr z lz) (hxy : Apt2 x y) (hxz : Apt2 x z) (hyz : Apt2 y z)
    (fx : ∀ k, x.ownBlock = some k → w.heap.size ≤ k) (fy : ∀ k, y.ownBlock = some k → w.heap.size ≤ k) (fz : ∀ k, z.ownBlock = some k → w.heap.size ≤ k) (hB : Below w.heap.size w wr) (hlx : lx.length ≤ 10000) (hly : ly.length ≤ 10000) (hlz : lz.length ≤ 10000) :
    Calls Try.prog 18 #[.slice (some ⟨wr.heap.size, 0, none⟩) 3 3] (wr.alloc (.cells #[x, y, z] 35)) fun e w' => e = .returned (.bool true) ∧ Below w.heap.size w w' := by
  have hbo := below_new wr (.cells #[x, y, z] 35)
  have hFil : Fil (wr.alloc (.cells #[x, y, z] 35)) wr.heap.size 3 (three x y z) (three lx ly lz) (wr.alloc (.cells #[x, y, z] 35)) := ⟨Blk.new wr 35 #[x, y, z], fun j hj => by
    match j, hj with
    | 0, _ => exact (hx.below' hbo).tail
    | 1, _ => exact (hy.below' hbo).tail
    | 2, _ => exact (hz.below' hbo).tail, Grown.refl _ _⟩
  have hSep : Sep 3 (three x y z) := fun i j hi hj hij k hk => by
    match i, hi, j, hj with
    | 0, _, 0, _ => exact absurd rfl hij
    | 0, _, 1, _ => exact hxy k hk
    | 0, _, 2, _ => exact hxz k hk
    | 1, _, 0, _ => exact fun e => hxy k e hk
    | 1, _, 1, _ => exact absurd rfl hij
    | 1, _, 2, _ => exact hyz k hk
    | 2, _, 0, _ => exact fun e => hxz k e hk
    | 2, _, 1, _ => exact fun e => hyz k e hk
    | 2, _, 2, _ => exact absurd rfl hij
  have hlow : Below w.heap.size w (wr.alloc (.cells #[x, y, z] 35)) := hB.trans (hbo.mono hB.size)
  refine (grown_any wr.heap.size 3 _ _ _ hFil hSep (by omega) (fun j hj => by
    match j, hj with
    | 0, _ => show lx.length + 71 ≤ _; omega
    | 1, _ => show ly.length + 71 ≤ _; omega
    | 2, _ => show lz.length + 71 ≤ _; omega)).mono ?_
  rintro e w' ⟨rfl, hg⟩
  refine ⟨rfl, hlow.trans (hg.to_below (fun k hk ⟨j, hj, e⟩ => ?_) hlow.size)⟩
  match j, hj with
  | 0, _ => have := fx k e; omega
  | 1, _ => have := fy k e; omega
  | 2, _ => have := fz k e; omega
structure JS (w : World) (gv gw : Nat) (va vb : Value) (l m a : List Int) (wr : World) : Prop where
  dv : Wd wr gv a
  dw : Wd wr gw m
  ra : RowAt wr va l
  rb : RowAt wr vb m
  B : Below w.heap.size w wr
theorem JS.more {w wr w' : World} {gv gw : Nat} {va vb : Value} {l m a : List Int} (h : JS w gv gw va vb l m a wr) (hb : Below wr.heap.size wr w') : JS w gv gw va vb l m a w' :=
  ⟨Blk.below h.dv hb (Blk.lt h.dv), Blk.below h.dw hb (Blk.lt h.dw), h.ra.below hb, h.rb.below hb, h.B.trans (hb.mono h.B.size)⟩
theorem joinL_len (l m : List Int) : (joinL l m).length ≤ 10000 := by
  unfold joinL okJ
  split
  · rename_i h
    have := isP_rng (Bool.and_eq_true_iff.1 h).1
    rw [orL_len]
    omega
  · simp

set_option maxRecDepth 8000 in
set_option maxHeartbeats 8000000 in
theorem bjoins_any (va vb : Value) (l m : List Int) (w : World) (ha : RowAt w va l) (hb : RowAt w vb m) (hba : Byts l) (hbb : Byts m) (hla : l.length ≤ 140737488351232) (hlb : m.length ≤ 140737488351232)
    (hlta : ∀ k, va.ownBlock = some k → k < w.heap.size) (hltb : ∀ k, vb.ownBlock = some k → k < w.heap.size) :
    Calls Try.prog 8 #[va, vb] w fun e w' => e = .returned (.bool true) ∧ Below w.heap.size w w' := by
  obtain ⟨aa, ac, hva⟩ := row_form ha
  obtain ⟨ba, bc, hvb⟩ := row_form hb
  have HRa := Keep.mk ha
  have HRb := Keep.mk hb
  have HLTa : Keep (∀ k, va.ownBlock = some k → k < w.heap.size) := ⟨hlta⟩
  have HLTb : Keep (∀ k, vb.ownBlock = some k → k < w.heap.size) := ⟨hltb⟩
  have Hva := Keep.mk hva
  have Hvb := Keep.mk hvb
  have Hla := Keep.mk hla
  have Hlb := Keep.mk hlb
  rw [hva, hvb]
  clear hva hvb ha hb hba hbb hla hlb hlta hltb
  obtain ⟨N, hN⟩ : ∃ N, Keep (N = l.length) := ⟨_, ⟨rfl⟩⟩
  obtain ⟨M, hM⟩ : ∃ M, Keep (M = m.length) := ⟨_, ⟨rfl⟩⟩
  rw [← hN.out] at Hva Hla ⊢
  rw [← hM.out] at Hvb Hlb ⊢
  have hNb : (N : Int) ≤ 140737488351232 := by have := Hla.out; omega
  have hMb : (M : Int) ≤ 140737488351232 := by have := Hlb.out; omega
  go_enter Try.func8, Try.ntmps8
  go_wp2_with fail
  refine (fixed_any w).mono ?_
  rintro e w1 ⟨rfl, hb1⟩
  have HRa1 := Keep.mk (HRa.out.below hb1)
  have HRb1 := Keep.mk (HRb.out.below hb1)
  have HB1 := Keep.mk hb1
  have HWD := Keep.mk (wide3_any _ l w1 HRa1.out (by rw [← hN.out]; omega))
  rw [Hva.out, ← hN.out] at HWD
  clear hb1 HRa HRb
  go_wp2_with fail
  refine HWD.out.mono ?_
  rintro e w2 ⟨rfl, hwd, hb2⟩
  obtain ⟨gv, hgv⟩ : ∃ g, Keep (g = w1.heap.size) := ⟨_, ⟨rfl⟩⟩
  rw [← hgv.out] at hwd ⊢
  have HDv := Keep.mk hwd
  have HRb2 := Keep.mk (HRb1.out.below hb2)
  have HRa2 := Keep.mk (HRa1.out.below hb2)
  have HB2 := Keep.mk (HB1.out.trans (hb2.mono HB1.out.size))
  have hgev : w.heap.size ≤ gv := by rw [hgv.out]; exact HB1.out.size
  clear HWD hwd hb2 HRa1 HRb1 HB1
  have HWD := Keep.mk (wide3_any _ m w2 HRb2.out (by rw [← hM.out]; omega))
  rw [Hvb.out, ← hM.out] at HWD
  go_wp2_with fail
  refine HWD.out.mono ?_
  rintro e w3 ⟨rfl, hwd, hb3⟩
  obtain ⟨gw, hgw⟩ : ∃ g, Keep (g = w2.heap.size) := ⟨_, ⟨rfl⟩⟩
  rw [← hgw.out] at hwd ⊢
  have hnvw : gw ≠ gv := by have := Blk.lt HDv.out; have := hgw.out; omega
  have HJ : Keep (JS w gv gw va vb l m l w3) := ⟨⟨Blk.below HDv.out hb3 (Blk.lt HDv.out), hwd, HRa2.out.below hb3, HRb2.out.below hb3, HB2.out.trans (hb3.mono HB2.out.size)⟩⟩
  clear HWD hwd hb3 HRa2 HRb2 HB2 HDv
  obtain ⟨Z, hZ⟩ : ∃ Z, Keep (Z = w3.heap.size) := ⟨_, ⟨rfl⟩⟩
  have HZ : Keep (Z ≤ w3.heap.size) := ⟨by rw [hZ.out]; exact Nat.le_refl _⟩
  have HvZ : Keep (gv < Z) := ⟨by rw [hZ.out]; exact Blk.lt HJ.out.dv⟩
  have HwZ : Keep (w.heap.size ≤ Z) := ⟨by rw [hZ.out]; exact HJ.out.B.size⟩
  have hslv := sl_run (some ⟨gv, 0, none⟩) (N + 8) (N + 8) N (by omega)
  have hslw := sl_run (some ⟨gw, 0, none⟩) (M + 8) (M + 8) M (by omega)
  obtain ⟨E, hE⟩ : ∃ E : Int, Keep (E = if okJ l m = true then 0 else 60) := ⟨_, ⟨rfl⟩⟩
  obtain ⟨KL, hKK⟩ : ∃ KL, Keep (KL = joinL l m) := ⟨_, ⟨rfl⟩⟩
  obtain ⟨a2, ha2⟩ : ∃ a2, Keep (a2 = flL 15 l) := ⟨_, ⟨rfl⟩⟩
  obtain ⟨KM, hKK2⟩ : ∃ KM, Keep (KM = joinL a2 m) := ⟨_, ⟨rfl⟩⟩
  have HE2 : Keep (E = if okJ a2 m = true then 0 else 60) := ⟨by rw [hE.out, ha2.out]; unfold okJ; rw [flL_len]⟩
  have HKl : Keep (KL.length ≤ 10000) := ⟨by rw [hKK.out]; exact joinL_len _ _⟩
  have HKl2 : Keep (KM.length ≤ 10000) := ⟨by rw [hKK2.out]; exact joinL_len _ _⟩
  have HRS : Keep (∀ a wx, a.length = N → JS w gv gw va vb l m a wx → RowAt wx (.slice (some ⟨gv, 0, none⟩) N (N + 8)) a ∧ RowAt wx (.slice (some ⟨gw, 0, none⟩) M (M + 8)) m) := ⟨fun a wx hal h => ⟨by have := h.dv.row (N + 8) (by rw [hal]; omega); rwa [hal] at this, by have := h.dw.row (M + 8) (by rw [← hM.out]; omega); rwa [← hM.out] at this⟩⟩
  have HC1 : Keep (∀ wx, JS w gv gw va vb l m l wx → Calls Try.prog 27 #[.slice aa N ac, .slice ba M bc] wx fun e w' => ∃ v', e = .returned (.tuple #[v', .int .i64 E]) ∧ NewB wx v' KL w') := ⟨fun wx h => by have := rjoin_any va vb l m wx h.ra h.rb (by rw [← hM.out]; omega); unfold JoinPost at this; rwa [← hE.out, ← hKK.out, Hva.out, Hvb.out] at this⟩
  have HC2 : Keep (∀ wx, JS w gv gw va vb l m l wx → Calls Try.prog 28 #[.slice (some ⟨gv, 0, none⟩) N (N + 8), .slice (some ⟨gw, 0, none⟩) M (M + 8)] wx fun e w' => ∃ v', e = .returned (.tuple #[v', .int .i64 E]) ∧ NewB wx v' KL w') := ⟨fun wx h => by have h2 := HRS.out l wx hN.out.symm h; have := join_any _ _ l m wx h2.1 h2.2 (by rw [← hM.out]; omega); unfold JoinPost at this; rwa [← hE.out, ← hKK.out] at this⟩
  have HC3 : Keep (∀ wx, JS w gv gw va vb l m a2 wx → Calls Try.prog 27 #[.slice (some ⟨gv, 0, none⟩) N (N + 8), .slice (some ⟨gw, 0, none⟩) M (M + 8)] wx fun e w' => ∃ v', e = .returned (.tuple #[v', .int .i64 E]) ∧ NewB wx v' KM w') := ⟨fun wx h => by have h2 := HRS.out a2 wx (by rw [ha2.out, flL_len, hN.out]) h; have := rjoin_any _ _ a2 m wx h2.1 h2.2 (by rw [← hM.out]; omega); unfold JoinPost at this; rwa [← HE2.out, ← hKK2.out] at this⟩
  have HC4 : Keep (∀ wx, JS w gv gw va vb l m a2 wx → Calls Try.prog 28 #[.slice (some ⟨gv, 0, none⟩) N (N + 8), .slice (some ⟨gw, 0, none⟩) M (M + 8)] wx fun e w' => ∃ v', e = .returned (.tuple #[v', .int .i64 E]) ∧ NewB wx v' KM w') := ⟨fun wx h => by have h2 := HRS.out a2 wx (by rw [ha2.out, flL_len, hN.out]) h; have := join_any _ _ a2 m wx h2.1 h2.2 (by rw [← hM.out]; omega); unfold JoinPost at this; rwa [← HE2.out, ← hKK2.out] at this⟩
  have HKv : Keep (∀ wx, JS w gv gw va vb l m l wx → Calls Try.prog 26 #[.slice (some ⟨gv, 0, none⟩) (N + 8) (N + 8), .slice aa N ac] wx fun e w' => e = .returned (.bool true) ∧ Below wx.heap.size wx w') := ⟨fun wx h => by
    have h1 := kept3_any gv va l wx h.dv h.ra (by rw [← hN.out]; omega)
    rw [← hN.out, Hva.out] at h1
    refine h1.mono ?_
    rintro e w' ⟨rfl, q, rfl⟩
    exact ⟨rfl, below_drewN (Below.refl _ _) q⟩⟩
  have HKw : Keep (∀ wx, JS w gv gw va vb l m l wx → Calls Try.prog 26 #[.slice (some ⟨gw, 0, none⟩) (M + 8) (M + 8), .slice ba M bc] wx fun e w' => e = .returned (.bool true) ∧ Below wx.heap.size wx w') := ⟨fun wx h => by
    have h1 := kept3_any gw vb m wx h.dw h.rb (by rw [← hM.out]; omega)
    rw [← hM.out, Hvb.out] at h1
    refine h1.mono ?_
    rintro e w' ⟨rfl, q, rfl⟩
    exact ⟨rfl, below_drewN (Below.refl _ _) q⟩⟩
  have HSM : Keep (∀ u v (J : List Int) wx, Own wx u J → Own wx v J → Calls Try.prog 17 #[u, v] wx fun r w' => r = .returned (.bool true) ∧ w' = wx) := ⟨fun u v J wx h1 h2 => same3_any _ _ J J wx h1.row h2.row true (by rw [beq_toListBytes, beq_self_eq_true])⟩
  go_wp2_with fail
  refine (HC1.out _ HJ.out).mono ?_
  rintro e w4 ⟨vt, rfl, hn⟩
  have HFt : Keep (∀ k, vt.ownBlock = some k → Z ≤ k) := ⟨fun k h => by have := hn.2.1 k h; have := HZ.out; omega⟩
  have hbn := hn.2.2
  have HJ := Keep.mk (HJ.out.more hbn)
  have Ht := Keep.mk hn.1
  have HZ := Keep.mk (Nat.le_trans HZ.out hbn.size)
  clear hn hbn
  go_wp2_with fail
  refine wp_region_held_drew (S := fun _ => True) (by kernel_rfl) trivial (fun hHeld => ?_)
  have hbd : Below w4.heap.size w4 w4.drew := (Below.refl _ _).drew
  have HJ := Keep.mk (HJ.out.more hbd)
  have Ht := Keep.mk (Ht.out.below' hbd)
  have HZ : Keep (Z ≤ w4.drew.heap.size) := ⟨Nat.le_trans HZ.out hbd.size⟩
  clear hbd
  generalize w4.drew = wd at *
  refine wpAnyH_take (i := 0) (oi := ⟨some 37, Op.move (Operand.tmp 6), 35, _, _, none⟩) (v := .slice (some ⟨gv, 0, none⟩) (N + 8) (N + 8)) rfl (by kernel_rfl) (by kernel_rfl) (by kernel_rfl) (fun _ _ _ h => h) (Or.inl ⟨by rfl, fun w hS => by go_simp⟩) hHeld ?_
  simp only [Act.put, List.setIfInBounds_toArray, List.set_cons_zero, List.set_cons_succ]
  refine wpAnyH_take (i := 1) (oi := ⟨some 38, Op.move (Operand.tmp 0), 35, _, _, none⟩) (v := .slice aa N ac) rfl (by kernel_rfl) (by kernel_rfl) (by kernel_rfl) (fun _ _ _ h => h) (Or.inl ⟨by rfl, fun w hS => by go_simp⟩) hHeld ?_
  simp only [Act.put, List.setIfInBounds_toArray, List.set_cons_zero, List.set_cons_succ]
  refine wpAnyH_take (i := 2) (oi := ⟨some 39, Op.call { callee := Callee.builtin Builtin.len, args := #[Operand.tmp 38], argTypes := #[35] }, 3, _, _, none⟩) (v := .int .i64 (N : Int)) rfl (by kernel_rfl) (by kernel_rfl) (by kernel_rfl) (fun _ _ _ h => h) (Or.inl ⟨by rfl, fun w hS => by go_simp⟩) hHeld ?_
  simp only [Act.put, List.setIfInBounds_toArray, List.set_cons_zero, List.set_cons_succ]
  refine wpAnyH_take (i := 3) (oi := ⟨some 40, Op.slice 35 (Operand.tmp 37) none (some (Operand.tmp 39)) none, 35, _, _, none⟩) (v := .slice (some ⟨gv, 0, none⟩) N (N + 8)) rfl (by kernel_rfl) (by kernel_rfl) (by kernel_rfl) (fun _ _ _ h => h) (Or.inl ⟨by rfl, fun w hS => by have h1 := hslv; go_simp⟩) hHeld ?_
  simp only [Act.put, List.setIfInBounds_toArray, List.set_cons_zero, List.set_cons_succ]
  refine wpAnyH_take (i := 4) (oi := ⟨some 41, Op.move (Operand.tmp 7), 35, _, _, none⟩) (v := .slice (some ⟨gw, 0, none⟩) (M + 8) (M + 8)) rfl (by kernel_rfl) (by kernel_rfl) (by kernel_rfl) (fun _ _ _ h => h) (Or.inl ⟨by rfl, fun w hS => by go_simp⟩) hHeld ?_
  simp only [Act.put, List.setIfInBounds_toArray, List.set_cons_zero, List.set_cons_succ]
  refine wpAnyH_take (i := 5) (oi := ⟨some 42, Op.move (Operand.tmp 1), 35, _, _, none⟩) (v := .slice ba M bc) rfl (by kernel_rfl) (by kernel_rfl) (by kernel_rfl) (fun _ _ _ h => h) (Or.inl ⟨by rfl, fun w hS => by go_simp⟩) hHeld ?_
  simp only [Act.put, List.setIfInBounds_toArray, List.set_cons_zero, List.set_cons_succ]
  refine wpAnyH_take (i := 6) (oi := ⟨some 43, Op.call { callee := Callee.builtin Builtin.len, args := #[Operand.tmp 42], argTypes := #[35] }, 3, _, _, none⟩) (v := .int .i64 (M : Int)) rfl (by kernel_rfl) (by kernel_rfl) (by kernel_rfl) (fun _ _ _ h => h) (Or.inl ⟨by rfl, fun w hS => by go_simp⟩) hHeld ?_
  simp only [Act.put, List.setIfInBounds_toArray, List.set_cons_zero, List.set_cons_succ]
  refine wpAnyH_take (i := 7) (oi := ⟨some 44, Op.slice 35 (Operand.tmp 41) none (some (Operand.tmp 43)) none, 35, _, _, none⟩) (v := .slice (some ⟨gw, 0, none⟩) M (M + 8)) rfl (by kernel_rfl) (by kernel_rfl) (by kernel_rfl) (fun _ _ _ h => h) (Or.inl ⟨by rfl, fun w hS => by have h1 := hslw; go_simp⟩) hHeld ?_
  simp only [Act.put, List.setIfInBounds_toArray, List.set_cons_zero, List.set_cons_succ]
  refine wpAnyH_ready (rs := [8]) (by kernel_rfl) (by simp) ?_
  refine AllReadyH.cons (o := ⟨some 45, Op.call { callee := Callee.value (Operand.func 28), args := #[Operand.tmp 40, Operand.tmp 44], argTypes := #[35, 35] }, 48, _, _, none⟩) rfl (fun K hK => ?_) (AllReadyH.nil)
  all_goals rw [if_pos (by rfl)]
  refine wp_callF 28 _ _ rfl Try.in28 #[.slice (some ⟨gv, 0, none⟩) N (N + 8), .slice (some ⟨gw, 0, none⟩) M (M + 8)] (by simp [Act.eval]) (fun vz wz => ∃ v', vz = .tuple #[v', .int .i64 E] ∧ NewB wd v' KL wz) ?_ ?_
  · refine (HC2.out wd HJ.out).mono ?_
    rintro e wz ⟨v', rfl, hn⟩
    exact ⟨_, rfl, v', rfl, hn⟩
  rintro vz w5 ⟨vx, rfl, hn⟩
  refine hK.out _ _ trivial fun hHeld => ?_
  clear hK
  simp only [Act.put, List.setIfInBounds_toArray, List.set_cons_zero, List.set_cons_succ]
  refine wpAnyH_take (i := 9) (oi := ⟨some 36, Op.move (Operand.tmp 45), 48, _, _, none⟩) (v := .tuple #[vx, .int .i64 E]) rfl (by kernel_rfl) (by kernel_rfl) (by kernel_rfl) (fun _ _ _ h => h) (Or.inl ⟨by rfl, fun w hS => by go_simp⟩) hHeld ?_
  simp only [Act.put, List.setIfInBounds_toArray, List.set_cons_zero, List.set_cons_succ]
  refine wpAnyH_take (i := 10) (oi := ⟨some 46, Op.extract (Operand.tmp 36) 0, 35, _, _, none⟩) (v := vx) rfl (by kernel_rfl) (by kernel_rfl) (by kernel_rfl) (fun _ _ _ h => h) (Or.inl ⟨by rfl, fun w hS => by go_simp⟩) hHeld ?_
  simp only [Act.put, List.setIfInBounds_toArray, List.set_cons_zero, List.set_cons_succ]
  refine wpAnyH_take (i := 11) (oi := ⟨some 47, Op.extract (Operand.tmp 36) 1, 44, _, _, none⟩) (v := .int .i64 E) rfl (by kernel_rfl) (by kernel_rfl) (by kernel_rfl) (fun _ _ _ h => h) (Or.inl ⟨by rfl, fun w hS => by go_simp⟩) hHeld ?_
  simp only [Act.put, List.setIfInBounds_toArray, List.set_cons_zero, List.set_cons_succ]
  refine wpAnyH_take (i := 12) (oi := ⟨some 10, Op.assign (Operand.tmp 46), 35, _, _, none⟩) (v := vx) rfl (by kernel_rfl) (by kernel_rfl) (by kernel_rfl) (fun _ _ _ h => h) (Or.inl ⟨by rfl, fun w hS => by go_simp⟩) hHeld ?_
  simp only [Act.put, List.setIfInBounds_toArray, List.set_cons_zero, List.set_cons_succ]
  refine wpAnyH_take (i := 13) (oi := ⟨some 11, Op.assign (Operand.tmp 47), 44, _, _, none⟩) (v := .int .i64 E) rfl (by kernel_rfl) (by kernel_rfl) (by kernel_rfl) (fun _ _ _ h => h) (Or.inl ⟨by rfl, fun w hS => by go_simp⟩) hHeld ?_
  simp only [Act.put, List.setIfInBounds_toArray, List.set_cons_zero, List.set_cons_succ]
  refine wpAnyH_done (by kernel_rfl) ?_ _
  clear hHeld
  have HAtx : Keep (Apt2 vt vx) := ⟨fun k h1 h2 => by have := Ht.out.lt k h1; have := hn.2.1 k h2; omega⟩
  have HFx : Keep (∀ k, vx.ownBlock = some k → Z ≤ k) := ⟨fun k h => by have := hn.2.1 k h; have := HZ.out; omega⟩
  have hbn := hn.2.2
  have HJ := Keep.mk (HJ.out.more hbn)
  have Ht := Keep.mk (Ht.out.below' hbn)
  have Hx := Keep.mk hn.1
  have HZ := Keep.mk (Nat.le_trans HZ.out hbn.size)
  clear hn hbn
  go_wp2_with fail
  refine wp_region_held_drew (S := fun _ => True) (by kernel_rfl) trivial (fun hHeld => ?_)
  have hbd : Below w5.heap.size w5 w5.drew := (Below.refl _ _).drew
  have HJ := Keep.mk (HJ.out.more hbd)
  have Ht := Keep.mk (Ht.out.below' hbd)
  have Hx := Keep.mk (Hx.out.below' hbd)
  have HZ : Keep (Z ≤ w5.drew.heap.size) := ⟨Nat.le_trans HZ.out hbd.size⟩
  clear hbd
  generalize w5.drew = wd at *
  refine wpAnyH_take (i := 0) (oi := ⟨some 49, Op.move (Operand.tmp 6), 35, _, _, none⟩) (v := .slice (some ⟨gv, 0, none⟩) (N + 8) (N + 8)) rfl (by kernel_rfl) (by kernel_rfl) (by kernel_rfl) (fun _ _ _ h => h) (Or.inl ⟨by rfl, fun w hS => by go_simp⟩) hHeld ?_
  simp only [Act.put, List.setIfInBounds_toArray, List.set_cons_zero, List.set_cons_succ]
  refine wpAnyH_take (i := 1) (oi := ⟨some 50, Op.move (Operand.tmp 0), 35, _, _, none⟩) (v := .slice aa N ac) rfl (by kernel_rfl) (by kernel_rfl) (by kernel_rfl) (fun _ _ _ h => h) (Or.inl ⟨by rfl, fun w hS => by go_simp⟩) hHeld ?_
  simp only [Act.put, List.setIfInBounds_toArray, List.set_cons_zero, List.set_cons_succ]
  refine wpAnyH_take (i := 2) (oi := ⟨some 51, Op.call { callee := Callee.builtin Builtin.len, args := #[Operand.tmp 50], argTypes := #[35] }, 3, _, _, none⟩) (v := .int .i64 (N : Int)) rfl (by kernel_rfl) (by kernel_rfl) (by kernel_rfl) (fun _ _ _ h => h) (Or.inl ⟨by rfl, fun w hS => by go_simp⟩) hHeld ?_
  simp only [Act.put, List.setIfInBounds_toArray, List.set_cons_zero, List.set_cons_succ]
  refine wpAnyH_take (i := 3) (oi := ⟨some 52, Op.slice 35 (Operand.tmp 49) none (some (Operand.tmp 51)) none, 35, _, _, none⟩) (v := .slice (some ⟨gv, 0, none⟩) N (N + 8)) rfl (by kernel_rfl) (by kernel_rfl) (by kernel_rfl) (fun _ _ _ h => h) (Or.inl ⟨by rfl, fun w hS => by have h1 := hslv; go_simp⟩) hHeld ?_
  simp only [Act.put, List.setIfInBounds_toArray, List.set_cons_zero, List.set_cons_succ]
  refine wpAnyH_take (i := 4) (oi := ⟨some 53, Op.move (Operand.tmp 7), 35, _, _, none⟩) (v := .slice (some ⟨gw, 0, none⟩) (M + 8) (M + 8)) rfl (by kernel_rfl) (by kernel_rfl) (by kernel_rfl) (fun _ _ _ h => h) (Or.inl ⟨by rfl, fun w hS => by go_simp⟩) hHeld ?_
  simp only [Act.put, List.setIfInBounds_toArray, List.set_cons_zero, List.set_cons_succ]
  refine wpAnyH_take (i := 5) (oi := ⟨some 54, Op.move (Operand.tmp 1), 35, _, _, none⟩) (v := .slice ba M bc) rfl (by kernel_rfl) (by kernel_rfl) (by kernel_rfl) (fun _ _ _ h => h) (Or.inl ⟨by rfl, fun w hS => by go_simp⟩) hHeld ?_
  simp only [Act.put, List.setIfInBounds_toArray, List.set_cons_zero, List.set_cons_succ]
  refine wpAnyH_take (i := 6) (oi := ⟨some 55, Op.call { callee := Callee.builtin Builtin.len, args := #[Operand.tmp 54], argTypes := #[35] }, 3, _, _, none⟩) (v := .int .i64 (M : Int)) rfl (by kernel_rfl) (by kernel_rfl) (by kernel_rfl) (fun _ _ _ h => h) (Or.inl ⟨by rfl, fun w hS => by go_simp⟩) hHeld ?_
  simp only [Act.put, List.setIfInBounds_toArray, List.set_cons_zero, List.set_cons_succ]
  refine wpAnyH_take (i := 7) (oi := ⟨some 56, Op.slice 35 (Operand.tmp 53) none (some (Operand.tmp 55)) none, 35, _, _, none⟩) (v := .slice (some ⟨gw, 0, none⟩) M (M + 8)) rfl (by kernel_rfl) (by kernel_rfl) (by kernel_rfl) (fun _ _ _ h => h) (Or.inl ⟨by rfl, fun w hS => by have h1 := hslw; go_simp⟩) hHeld ?_
  simp only [Act.put, List.setIfInBounds_toArray, List.set_cons_zero, List.set_cons_succ]
  refine wpAnyH_ready (rs := [8]) (by kernel_rfl) (by simp) ?_
  refine AllReadyH.cons (o := ⟨some 57, Op.call { callee := Callee.value (Operand.func 28), args := #[Operand.tmp 52, Operand.tmp 56], argTypes := #[35, 35] }, 48, _, _, none⟩) rfl (fun K hK => ?_) (AllReadyH.nil)
  all_goals rw [if_pos (by rfl)]
  refine wp_callF 28 _ _ rfl Try.in28 #[.slice (some ⟨gv, 0, none⟩) N (N + 8), .slice (some ⟨gw, 0, none⟩) M (M + 8)] (by simp [Act.eval]) (fun vz wz => ∃ v', vz = .tuple #[v', .int .i64 E] ∧ NewB wd v' KL wz) ?_ ?_
  · refine (HC2.out wd HJ.out).mono ?_
    rintro e wz ⟨v', rfl, hn⟩
    exact ⟨_, rfl, v', rfl, hn⟩
  rintro vz w6 ⟨vy, rfl, hn⟩
  refine hK.out _ _ trivial fun hHeld => ?_
  clear hK
  simp only [Act.put, List.setIfInBounds_toArray, List.set_cons_zero, List.set_cons_succ]
  refine wpAnyH_take (i := 9) (oi := ⟨some 48, Op.move (Operand.tmp 57), 48, _, _, none⟩) (v := .tuple #[vy, .int .i64 E]) rfl (by kernel_rfl) (by kernel_rfl) (by kernel_rfl) (fun _ _ _ h => h) (Or.inl ⟨by rfl, fun w hS => by go_simp⟩) hHeld ?_
  simp only [Act.put, List.setIfInBounds_toArray, List.set_cons_zero, List.set_cons_succ]
  refine wpAnyH_take (i := 10) (oi := ⟨some 58, Op.extract (Operand.tmp 48) 0, 35, _, _, none⟩) (v := vy) rfl (by kernel_rfl) (by kernel_rfl) (by kernel_rfl) (fun _ _ _ h => h) (Or.inl ⟨by rfl, fun w hS => by go_simp⟩) hHeld ?_
  simp only [Act.put, List.setIfInBounds_toArray, List.set_cons_zero, List.set_cons_succ]
  refine wpAnyH_take (i := 11) (oi := ⟨some 59, Op.extract (Operand.tmp 48) 1, 44, _, _, none⟩) (v := .int .i64 E) rfl (by kernel_rfl) (by kernel_rfl) (by kernel_rfl) (fun _ _ _ h => h) (Or.inl ⟨by rfl, fun w hS => by go_simp⟩) hHeld ?_
  simp only [Act.put, List.setIfInBounds_toArray, List.set_cons_zero, List.set_cons_succ]
  refine wpAnyH_take (i := 12) (oi := ⟨some 12, Op.assign (Operand.tmp 58), 35, _, _, none⟩) (v := vy) rfl (by kernel_rfl) (by kernel_rfl) (by kernel_rfl) (fun _ _ _ h => h) (Or.inl ⟨by rfl, fun w hS => by go_simp⟩) hHeld ?_
  simp only [Act.put, List.setIfInBounds_toArray, List.set_cons_zero, List.set_cons_succ]
  refine wpAnyH_take (i := 13) (oi := ⟨some 13, Op.assign (Operand.tmp 59), 44, _, _, none⟩) (v := .int .i64 E) rfl (by kernel_rfl) (by kernel_rfl) (by kernel_rfl) (fun _ _ _ h => h) (Or.inl ⟨by rfl, fun w hS => by go_simp⟩) hHeld ?_
  simp only [Act.put, List.setIfInBounds_toArray, List.set_cons_zero, List.set_cons_succ]
  refine wpAnyH_done (by kernel_rfl) ?_ _
  clear hHeld
  have HAty : Keep (Apt2 vt vy) := ⟨fun k h1 h2 => by have := Ht.out.lt k h1; have := hn.2.1 k h2; omega⟩
  have HAxy : Keep (Apt2 vx vy) := ⟨fun k h1 h2 => by have := Hx.out.lt k h1; have := hn.2.1 k h2; omega⟩
  have HFy : Keep (∀ k, vy.ownBlock = some k → Z ≤ k) := ⟨fun k h => by have := hn.2.1 k h; have := HZ.out; omega⟩
  have hbn := hn.2.2
  have HJ := Keep.mk (HJ.out.more hbn)
  have Ht := Keep.mk (Ht.out.below' hbn)
  have Hx := Keep.mk (Hx.out.below' hbn)
  have Hy := Keep.mk hn.1
  have HZ := Keep.mk (Nat.le_trans HZ.out hbn.size)
  clear hn hbn
  go_wp2_with fail
  refine (HSM.out vx vt KL w6 Hx.out Ht.out).mono ?_
  rintro e wq ⟨rfl, hq⟩
  rw [hq]
  clear hq
  go_wp2_with fail
  refine (HSM.out vy vt KL w6 Hy.out Ht.out).mono ?_
  rintro e wq ⟨rfl, hq⟩
  rw [hq]
  clear hq
  go_wp2_with fail
  refine (HKv.out w6 HJ.out).mono ?_
  rintro e w7 ⟨rfl, hb7⟩
  have HJ := Keep.mk (HJ.out.more hb7)
  have Ht := Keep.mk (Ht.out.below' hb7)
  have Hx := Keep.mk (Hx.out.below' hb7)
  have Hy := Keep.mk (Hy.out.below' hb7)
  have HZ := Keep.mk (Nat.le_trans HZ.out hb7.size)
  clear hb7
  go_wp2_with fail
  refine (HKw.out w7 HJ.out).mono ?_
  rintro e w8 ⟨rfl, hb8⟩
  have HJ := Keep.mk (HJ.out.more hb8)
  have Ht := Keep.mk (Ht.out.below' hb8)
  have Hx := Keep.mk (Hx.out.below' hb8)
  have Hy := Keep.mk (Hy.out.below' hb8)
  have HZ := Keep.mk (Nat.le_trans HZ.out hb8.size)
  clear hb8 HKv HKw HC1 HC2
  have HW0 : Keep (Blk w8 gv 5 (bv (flL 15 (l.take 0) ++ l.drop 0 ++ mk8 8)).toArray) := ⟨by have := HJ.out.dv; simpa [Wd, flL] using this⟩
  go_wp2_with fail
  go_loopw [18] (fun i wr => ∃ j : Nat, j ≤ N ∧ i = .int .i64 j ∧ Blk wr gv 5 (bv (flL 15 (l.take j) ++ l.drop j ++ mk8 8)).toArray ∧ Grown w8 wr fun k => k = gv) (fun i _ => N - (intOf i).toNat)
  case atStart => exact ⟨0, by omega, rfl, HW0.out, Grown.refl _ _⟩
  case round =>
    clear HW0
    obtain ⟨j, hj, rfl, hB, hG⟩ := hrel
    by_cases hlj : j < N
    · have hlj' : (j : Int) < N := by omega
      have hlj2 : (j : Int) < ((N + 8 : Nat) : Int) := by omega
      have hjl : j < l.length := by rw [← hN.out]; exact hlj
      have cc := flip_cell hB hjl
      have ff := hB.frozen j
      have HBn := Keep.mk (hB.set j (.int .u8 (bits .xor .u8 (l.getD j 0) 15)))
      rw [flip_next 15 l j hjl _ rfl] at HBn
      have HGn := Keep.mk (hG.trans (Grown.setCell wr gv j (.int .u8 (bits .xor .u8 (l.getD j 0) 15)) (S := fun k => k = gv) fun _ => rfl))
      clear hB hG
      generalize l.getD j 0 = z at *
      go_wp2
      go_roundw
      case rel => exact ⟨j + 1, by omega, by go_num, HBn.out, HGn.out⟩
      case measure => simp only [intOf]; omega
    · obtain rfl : N = j := by omega
      have HJ : Keep (JS w gv gw va vb l m a2 wr) := ⟨⟨by rw [ha2.out]; simpa [Wd, hN.out] using hB, hG.blk HJ.out.dw hnvw, HJ.out.ra.grown hG (fun b hb hlb e => by have := HLTa.out b hb; omega), HJ.out.rb.grown hG (fun b hb hlb e => by have := HLTb.out b hb; omega), HJ.out.B.trans (hG.to_below (fun k hk e => by omega) HJ.out.B.size)⟩⟩
      have Ht := Keep.mk (Ht.out.grown hG (fun k hk e => by have := HFt.out k hk; have := HvZ.out; omega))
      have Hx := Keep.mk (Hx.out.grown hG (fun k hk e => by have := HFx.out k hk; have := HvZ.out; omega))
      have Hy := Keep.mk (Hy.out.grown hG (fun k hk e => by have := HFy.out k hk; have := HvZ.out; omega))
      have HZ : Keep (Z ≤ wr.heap.size) := ⟨Nat.le_trans HZ.out hG.size⟩
      clear hB hG hlj hj
      go_wp2_with fail
      refine wp_region_held_drew (S := fun _ => True) (by kernel_rfl) trivial (fun hHeld => ?_)
      have hbd : Below wr.heap.size wr wr.drew := (Below.refl _ _).drew
      have HJ := Keep.mk (HJ.out.more hbd)
      have Ht := Keep.mk (Ht.out.below' hbd)
      have Hx := Keep.mk (Hx.out.below' hbd)
      have Hy := Keep.mk (Hy.out.below' hbd)
      have HZ : Keep (Z ≤ wr.drew.heap.size) := ⟨Nat.le_trans HZ.out hbd.size⟩
      clear hbd
      generalize wr.drew = wd at *
      refine wpAnyH_take (i := 0) (oi := ⟨some 113, Op.move (Operand.tmp 6), 35, _, _, none⟩) (v := .slice (some ⟨gv, 0, none⟩) (N + 8) (N + 8)) rfl (by kernel_rfl) (by kernel_rfl) (by kernel_rfl) (fun _ _ _ h => h) (Or.inl ⟨by rfl, fun w hS => by go_simp⟩) hHeld ?_
      simp only [Act.put, List.setIfInBounds_toArray, List.set_cons_zero, List.set_cons_succ]
      refine wpAnyH_take (i := 1) (oi := ⟨some 114, Op.move (Operand.tmp 0), 35, _, _, none⟩) (v := .slice aa N ac) rfl (by kernel_rfl) (by kernel_rfl) (by kernel_rfl) (fun _ _ _ h => h) (Or.inl ⟨by rfl, fun w hS => by go_simp⟩) hHeld ?_
      simp only [Act.put, List.setIfInBounds_toArray, List.set_cons_zero, List.set_cons_succ]
      refine wpAnyH_take (i := 2) (oi := ⟨some 115, Op.call { callee := Callee.builtin Builtin.len, args := #[Operand.tmp 114], argTypes := #[35] }, 3, _, _, none⟩) (v := .int .i64 (N : Int)) rfl (by kernel_rfl) (by kernel_rfl) (by kernel_rfl) (fun _ _ _ h => h) (Or.inl ⟨by rfl, fun w hS => by go_simp⟩) hHeld ?_
      simp only [Act.put, List.setIfInBounds_toArray, List.set_cons_zero, List.set_cons_succ]
      refine wpAnyH_take (i := 3) (oi := ⟨some 116, Op.slice 35 (Operand.tmp 113) none (some (Operand.tmp 115)) none, 35, _, _, none⟩) (v := .slice (some ⟨gv, 0, none⟩) N (N + 8)) rfl (by kernel_rfl) (by kernel_rfl) (by kernel_rfl) (fun _ _ _ h => h) (Or.inl ⟨by rfl, fun w hS => by have h1 := hslv; go_simp⟩) hHeld ?_
      simp only [Act.put, List.setIfInBounds_toArray, List.set_cons_zero, List.set_cons_succ]
      refine wpAnyH_take (i := 4) (oi := ⟨some 117, Op.move (Operand.tmp 7), 35, _, _, none⟩) (v := .slice (some ⟨gw, 0, none⟩) (M + 8) (M + 8)) rfl (by kernel_rfl) (by kernel_rfl) (by kernel_rfl) (fun _ _ _ h => h) (Or.inl ⟨by rfl, fun w hS => by go_simp⟩) hHeld ?_
      simp only [Act.put, List.setIfInBounds_toArray, List.set_cons_zero, List.set_cons_succ]
      refine wpAnyH_take (i := 5) (oi := ⟨some 118, Op.move (Operand.tmp 1), 35, _, _, none⟩) (v := .slice ba M bc) rfl (by kernel_rfl) (by kernel_rfl) (by kernel_rfl) (fun _ _ _ h => h) (Or.inl ⟨by rfl, fun w hS => by go_simp⟩) hHeld ?_
      simp only [Act.put, List.setIfInBounds_toArray, List.set_cons_zero, List.set_cons_succ]
      refine wpAnyH_take (i := 6) (oi := ⟨some 119, Op.call { callee := Callee.builtin Builtin.len, args := #[Operand.tmp 118], argTypes := #[35] }, 3, _, _, none⟩) (v := .int .i64 (M : Int)) rfl (by kernel_rfl) (by kernel_rfl) (by kernel_rfl) (fun _ _ _ h => h) (Or.inl ⟨by rfl, fun w hS => by go_simp⟩) hHeld ?_
      simp only [Act.put, List.setIfInBounds_toArray, List.set_cons_zero, List.set_cons_succ]
      refine wpAnyH_take (i := 7) (oi := ⟨some 120, Op.slice 35 (Operand.tmp 117) none (some (Operand.tmp 119)) none, 35, _, _, none⟩) (v := .slice (some ⟨gw, 0, none⟩) M (M + 8)) rfl (by kernel_rfl) (by kernel_rfl) (by kernel_rfl) (fun _ _ _ h => h) (Or.inl ⟨by rfl, fun w hS => by have h1 := hslw; go_simp⟩) hHeld ?_
      simp only [Act.put, List.setIfInBounds_toArray, List.set_cons_zero, List.set_cons_succ]
      refine wpAnyH_ready (rs := [8]) (by kernel_rfl) (by simp) ?_
      refine AllReadyH.cons (o := ⟨some 121, Op.call { callee := Callee.value (Operand.func 27), args := #[Operand.tmp 116, Operand.tmp 120], argTypes := #[35, 35] }, 48, _, _, none⟩) rfl (fun K hK => ?_) (AllReadyH.nil)
      all_goals rw [if_pos (by rfl)]
      refine wp_callF 27 _ _ rfl Try.in27 #[.slice (some ⟨gv, 0, none⟩) N (N + 8), .slice (some ⟨gw, 0, none⟩) M (M + 8)] (by simp [Act.eval]) (fun vz wz => ∃ v', vz = .tuple #[v', .int .i64 E] ∧ NewB wd v' KM wz) ?_ ?_
      · refine (HC3.out wd HJ.out).mono ?_
        rintro e wz ⟨v', rfl, hn⟩
        exact ⟨_, rfl, v', rfl, hn⟩
      rintro vz w9 ⟨vn, rfl, hn⟩
      refine hK.out _ _ trivial fun hHeld => ?_
      clear hK
      simp only [Act.put, List.setIfInBounds_toArray, List.set_cons_zero, List.set_cons_succ]
      refine wpAnyH_take (i := 9) (oi := ⟨some 112, Op.move (Operand.tmp 121), 48, _, _, none⟩) (v := .tuple #[vn, .int .i64 E]) rfl (by kernel_rfl) (by kernel_rfl) (by kernel_rfl) (fun _ _ _ h => h) (Or.inl ⟨by rfl, fun w hS => by go_simp⟩) hHeld ?_
      simp only [Act.put, List.setIfInBounds_toArray, List.set_cons_zero, List.set_cons_succ]
      refine wpAnyH_take (i := 10) (oi := ⟨some 122, Op.extract (Operand.tmp 112) 0, 35, _, _, none⟩) (v := vn) rfl (by kernel_rfl) (by kernel_rfl) (by kernel_rfl) (fun _ _ _ h => h) (Or.inl ⟨by rfl, fun w hS => by go_simp⟩) hHeld ?_
      simp only [Act.put, List.setIfInBounds_toArray, List.set_cons_zero, List.set_cons_succ]
      refine wpAnyH_take (i := 11) (oi := ⟨some 123, Op.extract (Operand.tmp 112) 1, 44, _, _, none⟩) (v := .int .i64 E) rfl (by kernel_rfl) (by kernel_rfl) (by kernel_rfl) (fun _ _ _ h => h) (Or.inl ⟨by rfl, fun w hS => by go_simp⟩) hHeld ?_
      simp only [Act.put, List.setIfInBounds_toArray, List.set_cons_zero, List.set_cons_succ]
      refine wpAnyH_take (i := 12) (oi := ⟨some 19, Op.assign (Operand.tmp 122), 35, _, _, none⟩) (v := vn) rfl (by kernel_rfl) (by kernel_rfl) (by kernel_rfl) (fun _ _ _ h => h) (Or.inl ⟨by rfl, fun w hS => by go_simp⟩) hHeld ?_
      simp only [Act.put, List.setIfInBounds_toArray, List.set_cons_zero, List.set_cons_succ]
      refine wpAnyH_take (i := 13) (oi := ⟨some 20, Op.assign (Operand.tmp 123), 44, _, _, none⟩) (v := .int .i64 E) rfl (by kernel_rfl) (by kernel_rfl) (by kernel_rfl) (fun _ _ _ h => h) (Or.inl ⟨by rfl, fun w hS => by go_simp⟩) hHeld ?_
      simp only [Act.put, List.setIfInBounds_toArray, List.set_cons_zero, List.set_cons_succ]
      refine wpAnyH_done (by kernel_rfl) ?_ _
      clear hHeld
      have HAtn : Keep (Apt2 vt vn) := ⟨fun k h1 h2 => by have := Ht.out.lt k h1; have := hn.2.1 k h2; omega⟩
      have HAxn : Keep (Apt2 vx vn) := ⟨fun k h1 h2 => by have := Hx.out.lt k h1; have := hn.2.1 k h2; omega⟩
      have HAyn : Keep (Apt2 vy vn) := ⟨fun k h1 h2 => by have := Hy.out.lt k h1; have := hn.2.1 k h2; omega⟩
      have HFn : Keep (∀ k, vn.ownBlock = some k → Z ≤ k) := ⟨fun k h => by have := hn.2.1 k h; have := HZ.out; omega⟩
      have hbn := hn.2.2
      have HJ := Keep.mk (HJ.out.more hbn)
      have Ht := Keep.mk (Ht.out.below' hbn)
      have Hx := Keep.mk (Hx.out.below' hbn)
      have Hy := Keep.mk (Hy.out.below' hbn)
      have Hn := Keep.mk hn.1
      have HZ := Keep.mk (Nat.le_trans HZ.out hbn.size)
      clear hn hbn
      go_wp2_with fail
      refine wp_region_held_drew (S := fun _ => True) (by kernel_rfl) trivial (fun hHeld => ?_)
      have hbd : Below w9.heap.size w9 w9.drew := (Below.refl _ _).drew
      have HJ := Keep.mk (HJ.out.more hbd)
      have Ht := Keep.mk (Ht.out.below' hbd)
      have Hx := Keep.mk (Hx.out.below' hbd)
      have Hy := Keep.mk (Hy.out.below' hbd)
      have Hn := Keep.mk (Hn.out.below' hbd)
      have HZ : Keep (Z ≤ w9.drew.heap.size) := ⟨Nat.le_trans HZ.out hbd.size⟩
      clear hbd
      generalize w9.drew = wd at *
      refine wpAnyH_take (i := 0) (oi := ⟨some 125, Op.move (Operand.tmp 6), 35, _, _, none⟩) (v := .slice (some ⟨gv, 0, none⟩) (N + 8) (N + 8)) rfl (by kernel_rfl) (by kernel_rfl) (by kernel_rfl) (fun _ _ _ h => h) (Or.inl ⟨by rfl, fun w hS => by go_simp⟩) hHeld ?_
      simp only [Act.put, List.setIfInBounds_toArray, List.set_cons_zero, List.set_cons_succ]
      refine wpAnyH_take (i := 1) (oi := ⟨some 126, Op.move (Operand.tmp 0), 35, _, _, none⟩) (v := .slice aa N ac) rfl (by kernel_rfl) (by kernel_rfl) (by kernel_rfl) (fun _ _ _ h => h) (Or.inl ⟨by rfl, fun w hS => by go_simp⟩) hHeld ?_
      simp only [Act.put, List.setIfInBounds_toArray, List.set_cons_zero, List.set_cons_succ]
      refine wpAnyH_take (i := 2) (oi := ⟨some 127, Op.call { callee := Callee.builtin Builtin.len, args := #[Operand.tmp 126], argTypes := #[35] }, 3, _, _, none⟩) (v := .int .i64 (N : Int)) rfl (by kernel_rfl) (by kernel_rfl) (by kernel_rfl) (fun _ _ _ h => h) (Or.inl ⟨by rfl, fun w hS => by go_simp⟩) hHeld ?_
      simp only [Act.put, List.setIfInBounds_toArray, List.set_cons_zero, List.set_cons_succ]
      refine wpAnyH_take (i := 3) (oi := ⟨some 128, Op.slice 35 (Operand.tmp 125) none (some (Operand.tmp 127)) none, 35, _, _, none⟩) (v := .slice (some ⟨gv, 0, none⟩) N (N + 8)) rfl (by kernel_rfl) (by kernel_rfl) (by kernel_rfl) (fun _ _ _ h => h) (Or.inl ⟨by rfl, fun w hS => by have h1 := hslv; go_simp⟩) hHeld ?_
      simp only [Act.put, List.setIfInBounds_toArray, List.set_cons_zero, List.set_cons_succ]
      refine wpAnyH_take (i := 4) (oi := ⟨some 129, Op.move (Operand.tmp 7), 35, _, _, none⟩) (v := .slice (some ⟨gw, 0, none⟩) (M + 8) (M + 8)) rfl (by kernel_rfl) (by kernel_rfl) (by kernel_rfl) (fun _ _ _ h => h) (Or.inl ⟨by rfl, fun w hS => by go_simp⟩) hHeld ?_
      simp only [Act.put, List.setIfInBounds_toArray, List.set_cons_zero, List.set_cons_succ]
      refine wpAnyH_take (i := 5) (oi := ⟨some 130, Op.move (Operand.tmp 1), 35, _, _, none⟩) (v := .slice ba M bc) rfl (by kernel_rfl) (by kernel_rfl) (by kernel_rfl) (fun _ _ _ h => h) (Or.inl ⟨by rfl, fun w hS => by go_simp⟩) hHeld ?_
      simp only [Act.put, List.setIfInBounds_toArray, List.set_cons_zero, List.set_cons_succ]
      refine wpAnyH_take (i := 6) (oi := ⟨some 131, Op.call { callee := Callee.builtin Builtin.len, args := #[Operand.tmp 130], argTypes := #[35] }, 3, _, _, none⟩) (v := .int .i64 (M : Int)) rfl (by kernel_rfl) (by kernel_rfl) (by kernel_rfl) (fun _ _ _ h => h) (Or.inl ⟨by rfl, fun w hS => by go_simp⟩) hHeld ?_
      simp only [Act.put, List.setIfInBounds_toArray, List.set_cons_zero, List.set_cons_succ]
      refine wpAnyH_take (i := 7) (oi := ⟨some 132, Op.slice 35 (Operand.tmp 129) none (some (Operand.tmp 131)) none, 35, _, _, none⟩) (v := .slice (some ⟨gw, 0, none⟩) M (M + 8)) rfl (by kernel_rfl) (by kernel_rfl) (by kernel_rfl) (fun _ _ _ h => h) (Or.inl ⟨by rfl, fun w hS => by have h1 := hslw; go_simp⟩) hHeld ?_
      simp only [Act.put, List.setIfInBounds_toArray, List.set_cons_zero, List.set_cons_succ]
      refine wpAnyH_ready (rs := [8]) (by kernel_rfl) (by simp) ?_
      refine AllReadyH.cons (o := ⟨some 133, Op.call { callee := Callee.value (Operand.func 28), args := #[Operand.tmp 128, Operand.tmp 132], argTypes := #[35, 35] }, 48, _, _, none⟩) rfl (fun K hK => ?_) (AllReadyH.nil)
      all_goals rw [if_pos (by rfl)]
      refine wp_callF 28 _ _ rfl Try.in28 #[.slice (some ⟨gv, 0, none⟩) N (N + 8), .slice (some ⟨gw, 0, none⟩) M (M + 8)] (by simp [Act.eval]) (fun vz wz => ∃ v', vz = .tuple #[v', .int .i64 E] ∧ NewB wd v' KM wz) ?_ ?_
      · refine (HC4.out wd HJ.out).mono ?_
        rintro e wz ⟨v', rfl, hn⟩
        exact ⟨_, rfl, v', rfl, hn⟩
      rintro vz w10 ⟨vz, rfl, hn⟩
      refine hK.out _ _ trivial fun hHeld => ?_
      clear hK
      simp only [Act.put, List.setIfInBounds_toArray, List.set_cons_zero, List.set_cons_succ]
      refine wpAnyH_take (i := 9) (oi := ⟨some 124, Op.move (Operand.tmp 133), 48, _, _, none⟩) (v := .tuple #[vz, .int .i64 E]) rfl (by kernel_rfl) (by kernel_rfl) (by kernel_rfl) (fun _ _ _ h => h) (Or.inl ⟨by rfl, fun w hS => by go_simp⟩) hHeld ?_
      simp only [Act.put, List.setIfInBounds_toArray, List.set_cons_zero, List.set_cons_succ]
      refine wpAnyH_take (i := 10) (oi := ⟨some 134, Op.extract (Operand.tmp 124) 0, 35, _, _, none⟩) (v := vz) rfl (by kernel_rfl) (by kernel_rfl) (by kernel_rfl) (fun _ _ _ h => h) (Or.inl ⟨by rfl, fun w hS => by go_simp⟩) hHeld ?_
      simp only [Act.put, List.setIfInBounds_toArray, List.set_cons_zero, List.set_cons_succ]
      refine wpAnyH_take (i := 11) (oi := ⟨some 135, Op.extract (Operand.tmp 124) 1, 44, _, _, none⟩) (v := .int .i64 E) rfl (by kernel_rfl) (by kernel_rfl) (by kernel_rfl) (fun _ _ _ h => h) (Or.inl ⟨by rfl, fun w hS => by go_simp⟩) hHeld ?_
      simp only [Act.put, List.setIfInBounds_toArray, List.set_cons_zero, List.set_cons_succ]
      refine wpAnyH_take (i := 12) (oi := ⟨some 21, Op.assign (Operand.tmp 134), 35, _, _, none⟩) (v := vz) rfl (by kernel_rfl) (by kernel_rfl) (by kernel_rfl) (fun _ _ _ h => h) (Or.inl ⟨by rfl, fun w hS => by go_simp⟩) hHeld ?_
      simp only [Act.put, List.setIfInBounds_toArray, List.set_cons_zero, List.set_cons_succ]
      refine wpAnyH_take (i := 13) (oi := ⟨some 22, Op.assign (Operand.tmp 135), 44, _, _, none⟩) (v := .int .i64 E) rfl (by kernel_rfl) (by kernel_rfl) (by kernel_rfl) (fun _ _ _ h => h) (Or.inl ⟨by rfl, fun w hS => by go_simp⟩) hHeld ?_
      simp only [Act.put, List.setIfInBounds_toArray, List.set_cons_zero, List.set_cons_succ]
      refine wpAnyH_done (by kernel_rfl) ?_ _
      clear hHeld
      have HAtz : Keep (Apt2 vt vz) := ⟨fun k h1 h2 => by have := Ht.out.lt k h1; have := hn.2.1 k h2; omega⟩
      have HAxz : Keep (Apt2 vx vz) := ⟨fun k h1 h2 => by have := Hx.out.lt k h1; have := hn.2.1 k h2; omega⟩
      have HAyz : Keep (Apt2 vy vz) := ⟨fun k h1 h2 => by have := Hy.out.lt k h1; have := hn.2.1 k h2; omega⟩
      have HAnz : Keep (Apt2 vn vz) := ⟨fun k h1 h2 => by have := Hn.out.lt k h1; have := hn.2.1 k h2; omega⟩
      have HFz : Keep (∀ k, vz.ownBlock = some k → Z ≤ k) := ⟨fun k h => by have := hn.2.1 k h; have := HZ.out; omega⟩
      have hbn := hn.2.2
      have HJ := Keep.mk (HJ.out.more hbn)
      have Ht := Keep.mk (Ht.out.below' hbn)
      have Hx := Keep.mk (Hx.out.below' hbn)
      have Hy := Keep.mk (Hy.out.below' hbn)
      have Hn := Keep.mk (Hn.out.below' hbn)
      have Hz := Keep.mk hn.1
      have HZ := Keep.mk (Nat.le_trans HZ.out hbn.size)
      clear hn hbn
      go_wp2_with fail
      refine (HSM.out vz vn KM w10 Hz.out Hn.out).mono ?_
      rintro e wq ⟨rfl, hq⟩
      rw [hq]
      clear hq
      go_wp2_with fail
      refine (HSM.out vx vt KL w10 Hx.out Ht.out).mono ?_
      rintro e wq ⟨rfl, hq⟩
      rw [hq]
      clear hq
      obtain ⟨xa, xn, xc, rfl⟩ := Hx.out.sl
      obtain ⟨ya, yn, yc, rfl⟩ := Hy.out.sl
      obtain ⟨za, zn, zc, rfl⟩ := Hz.out.sl
      have HG := Keep.mk (grown3_any _ _ _ KL KL KM w w10 Hx.out Hy.out Hz.out HAxy.out HAxz.out HAyz.out (fun k h => by have := HFx.out k h; have := HwZ.out; omega) (fun k h => by have := HFy.out k h; have := HwZ.out; omega) (fun k h => by have := HFz.out k h; have := HwZ.out; omega) HJ.out.B HKl.out HKl.out HKl2.out)
      go_wp2_with fail
      refine HG.out.mono ?_
      rintro e w11 ⟨rfl, hb11⟩
      have HB := Keep.mk hb11
      clear hb11
      go_wp2
      go_ret
      exact ⟨rfl, HB.out⟩

end Go.Proofs.Ytfheinghkigocaa
namespace Go.Proofs.Ytfheinghkigocaa
open Go.RowKit
set_option linter.unusedSimpArgs false
set_option linter.unusedVariables false

theorem made_flat (n : Nat) : madeCells (bytesA 32 fun _ => 0) (n * 32) = (flatH (List.replicate n default)).toArray := by
  have h := zeroCellsH n
  unfold Builtin.zeroCells at h
  rw [bytesA_size] at h
  unfold madeCells
  rw [bytesA_size]
  exact Array.toList_inj.1 (by rw [h])
/-- copy of hashes to the head of more. -/
theorem run_copyH2 (w : World) (g N cap : Nat) (v : Value) (D E : List Hs) (ty : TypeId) (hg : Blk w g 27 (flatH E).toArray) (hN : D.length ≤ N) (hs : D.length ≤ E.length) (hr : HRow w v D) :
    (Builtin.copy_ #[32, 32] ty #[.slice (some ⟨g, 0, none⟩) N cap, v]).run Try.prog w = .ok (goInt D.length) (w.setRow g (flatH (D ++ E.drop D.length)).toArray) := by
  have hst := run_storeCells_at Try.prog g 0 27 (flatH D) 0 (flatH E).toArray w hg (by rw [flatH_len, flatH_arr_size]; omega) (flatH_one D)
  have hcur : ((flatH E).toArray.toList.take (0 + 0) ++ flatH D ++ (flatH E).toArray.toList.drop (0 + 0 + (flatH D).length)).toArray = (flatH (D ++ E.drop D.length)).toArray := by
    rw [flatH_len, flatH_app, ← flatH_drop]; simp
  rw [hcur] at hst
  have hmin : Nat.min D.length N = D.length := Nat.min_eq_left hN
  obtain ⟨i, hi, hsz⟩ := Option.map_eq_some_iff.1 Try.size27
  generalize (flatH (D ++ E.drop D.length)).toArray = F at *
  rcases hr with ⟨a, c, rfl, rfl, hac⟩ | ⟨b, off, cap2, rfl, _, hc⟩
  · rw [flatH_nil] at hst
    cases a with
    | none => simp [Builtin.copy_, run_underlying Try.underlying32, Builtin.lenOf, Builtin.firstCells, sizeOf, typeInfo, hi, hst]
    | some ad => simp [Builtin.copy_, run_underlying Try.underlying32, Builtin.lenOf, Builtin.firstCells, sizeOf, typeInfo, hi, loadCells, loadCellsFrom, hst]
  · have hl := run_loadCells_list (P := Try.prog) w ⟨b, off, none⟩ (flatH D) (fun j v hv => by rw [Addr.add_mid]; exact hc j v hv)
    rw [flatH_len] at hl
    simp [Builtin.copy_, run_underlying Try.underlying32, Builtin.lenOf, Builtin.firstCells, sizeOf, typeInfo, hi, hsz, hmin, hl, hst]
/-- A hash whose first byte is another. -/
def hset (x : Hs) (c : Int) : Hs := if h : 0 ≤ c ∧ c < 256 then Hs.mk' (upd x.f 0 c) (fun i hi => by unfold upd; split; exact h; exact x.bnd i hi) else x
theorem encH_hset (x : Hs) (c : Int) (hc : 0 ≤ c ∧ c < 256) : encH (hset x c) = (encH x).set 0 (.int .u8 c) := by
  unfold hset
  rw [dif_pos hc]
  apply List.ext_getElem?
  intro i
  by_cases hi : i < 32
  · rw [encH_get _ _ hi, Hs.mk'_f _ _ _ hi, List.getElem?_set]
    unfold upd
    by_cases h0 : i = 0
    · subst h0; rw [if_pos rfl, if_pos rfl, if_pos (by rw [encH_len]; omega)]
    · rw [if_neg h0, if_neg (Ne.symm h0), encH_get _ _ hi]
  · rw [List.getElem?_eq_none (by rw [encH_len]; omega), List.getElem?_eq_none (by rw [List.length_set, encH_len]; omega)]
theorem set_mid (A Y B : List Value) (k : Nat) (v : Value) (hA : A.length = k) (hY : 0 < Y.length) : (A ++ Y ++ B).set k v = A ++ Y.set 0 v ++ B := by
  subst hA
  rw [List.append_assoc, List.set_append_right _ _ (Nat.le_refl _), Nat.sub_self, List.set_append_left _ _ hY, List.append_assoc]
theorem flat_setCell (E : List Hs) (k : Nat) (y : Hs) (c : Int) (hk : k < E.length) (hc : 0 ≤ c ∧ c < 256) : (flatH (E.set k y)).toArray.setIfInBounds (k * 32) (.int .u8 c) = (flatH (E.set k (hset y c))).toArray := by
  have h1 := setH_flat E k y hk
  have h2 := setH_flat E k (hset y c) hk
  rw [encH_hset y c hc] at h2
  have hA : ((flatH E).toArray.toList.take (k * 32)).length = k * 32 := by
    show ((flatH E).take (k * 32)).length = k * 32
    rw [List.length_take, flatH_len]; omega
  have hY : 0 < (encH y).length := by rw [encH_len]; omega
  rw [← h1, ← h2]
  generalize (flatH E).toArray.toList.take (k * 32) = A at *
  generalize (flatH E).toArray.toList.drop (k * 32 + 32) = B at *
  generalize encH y = Y at *
  rw [List.setIfInBounds_toArray, set_mid A Y B (k * 32) _ hA hY]
def h7 (c : Int) : Hs := hset default c
theorem bld_h7 (c : Int) (hc : 0 ≤ c ∧ c < 256) : bytesA 32 (fun i => if i = 0 then c else 0) = (encH (h7 c)).toArray := by
  rw [encH_arr]
  apply bytesA_congr
  intro i hi
  unfold h7 hset
  rw [dif_pos hc, Hs.mk'_f _ _ _ hi]
  unfold upd
  split
  · rfl
  · exact (Hs.default_f i hi).symm
theorem Try.bldH (c : Int) : Try.prog.built 27 [(0, .int .u8 c)] = some (bytesA 32 fun i => if i = 0 then c else 0) := by kernel_rfl
structure MS (w : World) (g1 g4 : Nat) (ca : Array Value) (I : List Hs) (wr : World) : Prop where
  a : Blk wr g1 34 ca
  i : Blk wr g4 27 (flatH I).toArray
  B : Below w.heap.size w wr
theorem MS.more {w wr w' : World} {g1 g4 : Nat} {ca : Array Value} {I : List Hs} (h : MS w g1 g4 ca I wr) (hb : Below wr.heap.size wr w') : MS w g1 g4 ca I w' :=
  ⟨h.a.below hb h.a.lt, h.i.below hb h.i.lt, h.B.trans (hb.mono h.B.size)⟩
theorem blk_flat {w : World} {g : Nat} {E : List Hs} (h : Blk w g 27 (flatH E).toArray) : w.rangeAt g 0 (flatH E) := fun j v hv => by
  rw [Nat.zero_add, h.cell]; simpa using hv
theorem MS.row {w wr : World} {g1 g4 : Nat} {ca : Array Value} {I : List Hs} (h : MS w g1 g4 ca I wr) (N c : Nat) (hN : N ≤ I.length) (hc : N ≤ c) : HRow wr (.slice (some ⟨g4, 0, none⟩) N c) (I.take N) :=
  HRow.mk (by rw [List.length_take]; omega) hc (rangeAt_take (blk_flat h.i) N)
theorem MS.at {w wr : World} {g1 g4 : Nat} {ca : Array Value} {I : List Hs} (h : MS w g1 g4 ca I wr) {k : Nat} (hk : k < I.length) {x : Hs} (hx : I[k]? = some x) : wr.rangeAt g4 (k * 32) (encH x) := by
  have h1 := rangeAt_elem (blk_flat h.i) k hk
  rw [Nat.zero_add] at h1
  have : I[k] = x := by rw [List.getElem?_eq_getElem hk] at hx; exact Option.some.inj hx
  rwa [this] at h1

theorem WL.storeH {ops : Array Oper} {rest : List Oper} {o : Oper} {a : Act} {w : World} {Q : Exit → Act → World → Prop} (hw : Region.wanted o (yielded ops a.tmps) = true) (x y : Operand) (ho : o.op = .store 27 x y)
    (g k : Nat) (hh : Hs) (E : List Hs) (hx : a.eval x = .pointer (some ⟨g, k * 32, none⟩)) (hy : a.eval y = .agg (encH hh).toArray) (hg : Blk w g 27 (flatH E).toArray) (hk : k < E.length)
    (h : WL Try.prog ops Q rest (a.put o.dst undef) (w.setRow g (flatH (E.set k hh)).toArray)) : WL Try.prog ops Q (o :: rest) a w := by
  have e1 : (Try.prog.info? 27).map (·.size) = some (encH hh).toArray.size := by rw [List.size_toArray, encH_len]; exact Try.size27
  have e2 : k * 32 + (encH hh).toArray.size ≤ (flatH E).toArray.size := by rw [flatH_arr_size, List.size_toArray, encH_len]; omega
  have e3 : (encH hh).toArray.all (·.oneCell') = true := all_oneCell_toArray (encH_one hh)
  have e4 : ((flatH E).toArray.toList.take (k * 32) ++ (encH hh).toArray.toList ++ (flatH E).toArray.toList.drop (k * 32 + (encH hh).toArray.size)).toArray = (flatH (E.set k hh)).toArray := by
    rw [← setH_flat E k hh hk, List.size_toArray, encH_len]
  generalize (encH hh).toArray = C at *
  generalize (flatH E).toArray = F at *
  generalize (flatH (E.set k hh)).toArray = G at *
  exact WL.part hw 27 x y ho g (k * 32) C hx hy 27 F hg e1 e2 e3 G e4 h
theorem MS.set {w wr : World} {g1 g4 : Nat} {ca : Array Value} {I : List Hs} (h : MS w g1 g4 ca I wr) (hne : g1 ≠ g4) (hge : w.heap.size ≤ g4) (J : List Hs) : MS w g1 g4 ca J (wr.setRow g4 (flatH J).toArray) :=
  ⟨h.a.setRow_ne (b' := g4) hne _, h.i.setRow _, below_setRow h.B hge _⟩
/-- The list, written over from its head on. -/
def IJ (y : Hs) (I : List Hs) : Nat → List Hs
  | 0 => I
  | j + 1 => (IJ y I j).set j (hset y (bits .xor .u8 (y.f 0) ((j : Int) % 256)))
theorem IJ_len (y : Hs) (I : List Hs) : ∀ j, (IJ y I j).length = I.length
  | 0 => rfl
  | j + 1 => by rw [IJ, List.length_set, IJ_len y I j]
theorem IJ_get (y : Hs) (I : List Hs) : ∀ j k, j ≤ k → (IJ y I j)[k]? = I[k]?
  | 0, k, _ => rfl
  | j + 1, k, h => by rw [IJ, List.getElem?_set, if_neg (by omega), IJ_get y I j k (by omega)]
theorem xset (E : List Hs) (k : Nat) (y : Hs) (c : Int) (hk : k < E.length) (hc : 0 ≤ c ∧ c < 256) {w : World} {g : Nat} (h : Blk w g 27 (flatH (E.set k y)).toArray) : Blk (w.setCell ⟨g, k * 32, none⟩ (.int .u8 c)) g 27 (flatH (E.set k (hset y c))).toArray := by
  have := h.set (k * 32) (.int .u8 c)
  rwa [flat_setCell E k y c hk hc] at this

theorem set3 (L X : List Hs) (a b c : Hs) (N N1 N2 : Nat) (hN : N = L.length) (h1 : N1 = N + 1) (h2 : N2 = N + 2) (hX : 3 ≤ X.length) :
    ((((L ++ X).set N a).set N1 b).set N2 c).take N = L ∧ ((((L ++ X).set N a).set N1 b).set N2 c)[N]? = some a ∧ ((((L ++ X).set N a).set N1 b).set N2 c)[N1]? = some b ∧ ((((L ++ X).set N a).set N1 b).set N2 c)[N2]? = some c := by
  subst h1 h2 hN
  refine ⟨?_, ?_, ?_, ?_⟩
  · apply List.ext_getElem?
    intro i
    by_cases hi : i < L.length
    · rw [List.getElem?_take, if_pos hi, List.getElem?_set, if_neg (by omega), List.getElem?_set, if_neg (by omega), List.getElem?_set, if_neg (by omega), List.getElem?_append_left hi]
    · rw [List.getElem?_take, if_neg hi, List.getElem?_eq_none (by omega)]
  · rw [List.getElem?_set, if_neg (by omega), List.getElem?_set, if_neg (by omega), List.getElem?_set, if_pos rfl, if_pos (by simp; omega)]
  · rw [List.getElem?_set, if_neg (by omega), List.getElem?_set, if_pos rfl, if_pos (by simp; omega)]
  · rw [List.getElem?_set, if_pos rfl, if_pos (by simp; omega)]

end Go.Proofs.Ytfheinghkigocaa
namespace Go.Proofs.Ytfheinghkigocaa
open Go.RowKit
set_option linter.unusedSimpArgs false
set_option linter.unusedVariables false

theorem Try.in15 (w : World) (vs : Array Value) : (callFunc 15 vs).run Try.prog w = .ok (.enter 15 vs) w := by kernel_rfl

set_option maxRecDepth 8000 in
set_option maxHeartbeats 8000000 in
theorem bmakes_any (s : Int) (v : Value) (L : List Hs) (y : Hs) (w : World) (hs : 0 ≤ s ∧ s < 18446744073709551616) (hR : HRow w v L) (hl : L.length ≤ 4398046510976) :
    Calls Try.prog 6 #[.agg (.int .u64 s :: v :: encH y).toArray] w fun e w' => e = .returned (.bool true) ∧ Below w.heap.size w w' := by
  obtain ⟨la, lc, hv⟩ := hR.form
  obtain ⟨ca, Hca⟩ : ∃ ca, Keep (ca = (.int .u64 s :: v :: encH y).toArray) := ⟨_, ⟨rfl⟩⟩
  rw [← Hca.out]
  have HSs := Keep.mk hs
  have HR0 := Keep.mk hR
  have Hl := Keep.mk hl
  obtain ⟨N, hN⟩ : ∃ N, Keep (N = L.length) := ⟨_, ⟨rfl⟩⟩
  rw [← hN.out] at hv Hl
  rw [hv] at Hca HR0
  clear hs hR hl hv
  have hNb : (N : Int) ≤ 4398046510976 := by have := Hl.out; omega
  obtain ⟨N3, hN3⟩ : ∃ N3, Keep (N3 = N + 3) := ⟨_, ⟨rfl⟩⟩
  have HN3i : Keep ((N : Int) + 3 = (N3 : Int)) := ⟨by rw [hN3.out]; omega⟩
  have hlt0 : (N : Int) < (N3 : Int) := by have := HN3i.out; omega
  obtain ⟨N1, hN1⟩ : ∃ n, Keep (n = N + 1) := ⟨_, ⟨rfl⟩⟩
  obtain ⟨N2, hN2⟩ : ∃ n, Keep (n = N + 2) := ⟨_, ⟨rfl⟩⟩
  have hlt1 : (N1 : Int) < (N3 : Int) := by have := HN3i.out; have := hN1.out; omega
  have hlt2 : (N2 : Int) < (N3 : Int) := by have := HN3i.out; have := hN2.out; omega
  have hNN3 : N ≤ N3 := by omega
  have hN3b : (N3 : Int) ≤ 4398046511000 := by have := HN3i.out; omega
  have HC0 : Keep (∀ wx, Blk wx w.heap.size 34 ca → wx.cell? ⟨w.heap.size, 0, none⟩ = some (.int .u64 s)) := ⟨fun wx h => by rw [h.cell, Hca.out]; rfl⟩
  have HC1 : Keep (∀ wx, Blk wx w.heap.size 34 ca → wx.cell? ⟨w.heap.size, 1, none⟩ = some (.slice la N lc)) := ⟨fun wx h => by rw [h.cell, Hca.out]; rfl⟩
  have HCY : Keep (∀ wx, Blk wx w.heap.size 34 ca → wx.rangeAt w.heap.size 2 (encH y)) := ⟨fun wx h j u hu => by
    rw [h.cell, Hca.out, List.getElem?_toArray, show 2 + j = j + 1 + 1 by omega, List.getElem?_cons_succ, List.getElem?_cons_succ]
    exact hu⟩
  obtain ⟨g1, hg1⟩ : ∃ g, Keep (g = w.heap.size) := ⟨_, ⟨rfl⟩⟩
  rw [← hg1.out] at HC0 HC1 HCY
  go_enter Try.func6, Try.ntmps6
  go_wp2_with (first | (refine wpList_boxA rfl 34 (.tmp 0) rfl ca rfl ?_; refine Hid.out ?_))
  refine hid_in ?_
  have H1 := Keep.mk (Blk.new w 34 ca)
  have HB := Keep.mk (below_new w (.cells ca 34))
  rw [← hg1.out] at H1 ⊢
  generalize w.alloc (.cells ca 34) = wa at *
  go_wp2_with fail
  refine (fixed_any wa).mono ?_
  rintro e w1 ⟨rfl, hb1⟩
  have H1a := Keep.mk (H1.out.below hb1 H1.out.lt)
  have HBa := Keep.mk (HB.out.trans (hb1.mono HB.out.size))
  clear hb1 H1 HB
  rename_i K1 hK1 K2 hK2
  refine hK2 _ _ ?_
  refine WL.out ?_
  refine WL.val (by kernel_rfl) (.bool true) (by go_simp) ?_
  simp only [Act.put, List.setIfInBounds_toArray, List.set_cons_zero, List.set_cons_succ]
  refine WL.nil ?_
  refine hK1 _ _ ?_
  clear hK1 hK2 K1 K2
  have hmk := run_makeH N3 (by omega) w1
  rw [made_flat] at hmk
  obtain ⟨I0, hI0⟩ : ∃ I, Keep (I = List.replicate N3 (default : Hs)) := ⟨_, ⟨rfl⟩⟩
  rw [← hI0.out] at hmk
  have HI0 : Keep (I0.length = N3) := ⟨by rw [hI0.out]; simp⟩
  have H4 := Keep.mk (Blk.new w1 27 (flatH I0).toArray)
  have H1b := Keep.mk (H1a.out.alloc (.cells (flatH I0).toArray 27))
  have HBb := Keep.mk (HBa.out.alloc HBa.out.size (.cells (flatH I0).toArray 27))
  obtain ⟨g4, hg4⟩ : ∃ g, Keep (g = w1.heap.size) := ⟨_, ⟨rfl⟩⟩
  have hn14 : g1 ≠ g4 := by have := H1a.out.lt; have := hg4.out; omega
  have hge4 : w.heap.size ≤ g4 := by rw [hg4.out]; exact HBa.out.size
  rw [← hg4.out] at H4 hmk
  have hc1 := HC1.out _ H1a.out
  have hwN3 : IntKind.i64.wrap ((N : Int) + 3) = (N3 : Int) := by rw [IntKind.wrap_i64]; have := HN3i.out; omega
  refine wp_seq_k fun K3 hK3 => ?_
  refine wp_region_list (WL.out ?_)
  refine WL.val (by kernel_rfl) (.pointer (some ⟨g1, 1, none⟩)) (by go_simp) ?_
  simp only [Act.put, List.setIfInBounds_toArray, List.set_cons_zero, List.set_cons_succ]
  refine WL.val (by kernel_rfl) (.slice la N lc) (by go_simp) ?_
  simp only [Act.put, List.setIfInBounds_toArray, List.set_cons_zero, List.set_cons_succ]
  refine WL.val (by kernel_rfl) (.int .i64 (N : Int)) (by go_simp) ?_
  simp only [Act.put, List.setIfInBounds_toArray, List.set_cons_zero, List.set_cons_succ]
  refine WL.val (by kernel_rfl) (.int .i64 (N3 : Int)) (by go_simp) ?_
  simp only [Act.put, List.setIfInBounds_toArray, List.set_cons_zero, List.set_cons_succ]
  refine WL.valW (by kernel_rfl) (.slice (some ⟨g4, 0, none⟩) N3 N3) _ (by go_simp; exact rfl) ?_
  simp only [Act.put, List.setIfInBounds_toArray, List.set_cons_zero, List.set_cons_succ]
  generalize w1.alloc (.cells (flatH I0).toArray 27) = w2 at *
  clear hmk hc1 hwN3
  have HM : Keep (MS w g1 g4 ca I0 w2) := ⟨⟨H1b.out, H4.out, HBb.out⟩⟩
  clear H1a HBa H1b HBb H4
  refine WL.val (by kernel_rfl) (.slice (some ⟨g4, 0, none⟩) N3 N3) (by go_simp) ?_
  simp only [Act.put, List.setIfInBounds_toArray, List.set_cons_zero, List.set_cons_succ]
  refine WL.nil ?_
  refine hK3 _ _ ?_
  clear hK3 K3
  have hcp := run_copyH2 w2 g4 N3 N3 (.slice la N lc) L I0 3 HM.out.i (by rw [← hN.out]; omega) (by rw [← hN.out, HI0.out]; omega) (HR0.out.below HM.out.B)
  obtain ⟨I1, hI1⟩ : ∃ I, Keep (I = L ++ I0.drop L.length) := ⟨_, ⟨rfl⟩⟩
  rw [← hI1.out, ← hN.out] at hcp
  have HI1 : Keep (I1.length = N3) := ⟨by rw [hI1.out, List.length_append, List.length_drop, HI0.out, ← hN.out]; have := hN3.out; omega⟩
  have hc1 := HC1.out _ HM.out.a
  have HM := Keep.mk (HM.out.set hn14 hge4 I1)
  refine wp_seq_k fun K4 hK4 => ?_
  refine wp_region_list (WL.out ?_)
  refine WL.val (by kernel_rfl) (.slice (some ⟨g4, 0, none⟩) N3 N3) (by go_simp) ?_
  simp only [Act.put, List.setIfInBounds_toArray, List.set_cons_zero, List.set_cons_succ]
  refine WL.val (by kernel_rfl) (.pointer (some ⟨g1, 1, none⟩)) (by go_simp) ?_
  simp only [Act.put, List.setIfInBounds_toArray, List.set_cons_zero, List.set_cons_succ]
  refine WL.val (by kernel_rfl) (.slice la N lc) (by go_simp) ?_
  simp only [Act.put, List.setIfInBounds_toArray, List.set_cons_zero, List.set_cons_succ]
  refine WL.valW (by kernel_rfl) (goInt N) _ (by go_simp; exact rfl) ?_
  simp only [Act.put, List.setIfInBounds_toArray, List.set_cons_zero, List.set_cons_succ]
  clear hcp hc1
  generalize w2.setRow g4 (flatH I1).toArray = w3 at *
  refine WL.nil ?_
  refine hK4 _ _ ?_
  clear hK4 K4
  obtain ⟨A7, hA7⟩ : ∃ A, Keep (A = bytesA 32 fun i => if i = 0 then (7 : Int) else 0) := ⟨_, ⟨rfl⟩⟩
  have HA7 : Keep (Try.prog.built 27 [(0, .int .u8 7)] = some A7) := ⟨by rw [hA7.out]; exact Try.bldH 7⟩
  have HE7 : Keep (A7 = (encH (h7 7)).toArray) := ⟨by rw [hA7.out]; exact bld_h7 7 (by omega)⟩
  obtain ⟨A8, hA8⟩ : ∃ A, Keep (A = bytesA 32 fun i => if i = 0 then (8 : Int) else 0) := ⟨_, ⟨rfl⟩⟩
  have HA8 : Keep (Try.prog.built 27 [(0, .int .u8 8)] = some A8) := ⟨by rw [hA8.out]; exact Try.bldH 8⟩
  have HE8 : Keep (A8 = (encH (h7 8)).toArray) := ⟨by rw [hA8.out]; exact bld_h7 8 (by omega)⟩
  obtain ⟨A9, hA9⟩ : ∃ A, Keep (A = bytesA 32 fun i => if i = 0 then (9 : Int) else 0) := ⟨_, ⟨rfl⟩⟩
  have HA9 : Keep (Try.prog.built 27 [(0, .int .u8 9)] = some A9) := ⟨by rw [hA9.out]; exact Try.bldH 9⟩
  have HE9 : Keep (A9 = (encH (h7 9)).toArray) := ⟨by rw [hA9.out]; exact bld_h7 9 (by omega)⟩
  have hw1 : IntKind.i64.wrap ((N : Int) + 1) = (N1 : Int) := by rw [IntKind.wrap_i64]; have := hN1.out; omega
  have hw2 : IntKind.i64.wrap ((N : Int) + 2) = (N2 : Int) := by rw [IntKind.wrap_i64]; have := hN2.out; omega
  have hc1 := HC1.out _ HM.out.a
  refine wp_seq_k fun K5 hK5 => ?_
  refine wp_region_list (WL.out ?_)
  refine WL.val (by kernel_rfl) (.slice (some ⟨g4, 0, none⟩) N3 N3) (by go_simp) ?_
  simp only [Act.put, List.setIfInBounds_toArray, List.set_cons_zero, List.set_cons_succ]
  refine WL.val (by kernel_rfl) (.pointer (some ⟨g1, 1, none⟩)) (by go_simp) ?_
  simp only [Act.put, List.setIfInBounds_toArray, List.set_cons_zero, List.set_cons_succ]
  refine WL.val (by kernel_rfl) (.slice la N lc) (by go_simp) ?_
  simp only [Act.put, List.setIfInBounds_toArray, List.set_cons_zero, List.set_cons_succ]
  refine WL.val (by kernel_rfl) (.int .i64 (N : Int)) (by go_simp) ?_
  simp only [Act.put, List.setIfInBounds_toArray, List.set_cons_zero, List.set_cons_succ]
  refine WL.bld (by kernel_rfl) 27 _ rfl [(0, .int .u8 7)] (by simp [Act.eval]) A7 HA7.out ?_
  simp only [Act.put, List.setIfInBounds_toArray, List.set_cons_zero, List.set_cons_succ]
  refine WL.val (by kernel_rfl) (.pointer (some ⟨g4, (N) * 32, none⟩)) (by go_simp) ?_
  simp only [Act.put, List.setIfInBounds_toArray, List.set_cons_zero, List.set_cons_succ]
  refine WL.storeH (by kernel_rfl) _ _ rfl g4 (N) (h7 7) I1 rfl (by simp [Act.eval]; exact HE7.out) HM.out.i (by rw [HI1.out]; omega) ?_
  have HM := Keep.mk (HM.out.set hn14 hge4 (I1.set (N) (h7 7)))
  obtain ⟨I2, hI2⟩ : ∃ I, Keep (I = I1.set (N) (h7 7)) := ⟨_, ⟨rfl⟩⟩
  rw [← hI2.out] at HM
  have HI2 : Keep (I2.length = N3) := ⟨by rw [hI2.out, List.length_set]; exact HI1.out⟩
  rw [← hI2.out]
  generalize w3.setRow g4 (flatH I2).toArray = w4 at *
  simp only [Act.put]
  refine WL.nil ?_
  refine hK5 _ _ ?_
  clear hK5 K5
  have hc1 := HC1.out _ HM.out.a
  refine wp_seq_k fun K6 hK6 => ?_
  refine wp_region_list (WL.out ?_)
  refine WL.val (by kernel_rfl) (.slice (some ⟨g4, 0, none⟩) N3 N3) (by go_simp) ?_
  simp only [Act.put, List.setIfInBounds_toArray, List.set_cons_zero, List.set_cons_succ]
  refine WL.val (by kernel_rfl) (.pointer (some ⟨g1, 1, none⟩)) (by go_simp) ?_
  simp only [Act.put, List.setIfInBounds_toArray, List.set_cons_zero, List.set_cons_succ]
  refine WL.val (by kernel_rfl) (.slice la N lc) (by go_simp) ?_
  simp only [Act.put, List.setIfInBounds_toArray, List.set_cons_zero, List.set_cons_succ]
  refine WL.val (by kernel_rfl) (.int .i64 (N : Int)) (by go_simp) ?_
  simp only [Act.put, List.setIfInBounds_toArray, List.set_cons_zero, List.set_cons_succ]
  refine WL.val (by kernel_rfl) (.int .i64 (N1 : Int)) (by go_simp) ?_
  simp only [Act.put, List.setIfInBounds_toArray, List.set_cons_zero, List.set_cons_succ]
  refine WL.bld (by kernel_rfl) 27 _ rfl [(0, .int .u8 8)] (by simp [Act.eval]) A8 HA8.out ?_
  simp only [Act.put, List.setIfInBounds_toArray, List.set_cons_zero, List.set_cons_succ]
  refine WL.val (by kernel_rfl) (.pointer (some ⟨g4, (N1) * 32, none⟩)) (by go_simp) ?_
  simp only [Act.put, List.setIfInBounds_toArray, List.set_cons_zero, List.set_cons_succ]
  refine WL.storeH (by kernel_rfl) _ _ rfl g4 (N1) (h7 8) I2 rfl (by simp [Act.eval]; exact HE8.out) HM.out.i (by rw [HI2.out]; omega) ?_
  have HM := Keep.mk (HM.out.set hn14 hge4 (I2.set (N1) (h7 8)))
  obtain ⟨I3, hI3⟩ : ∃ I, Keep (I = I2.set (N1) (h7 8)) := ⟨_, ⟨rfl⟩⟩
  rw [← hI3.out] at HM
  have HI3 : Keep (I3.length = N3) := ⟨by rw [hI3.out, List.length_set]; exact HI2.out⟩
  rw [← hI3.out]
  generalize w4.setRow g4 (flatH I3).toArray = w5 at *
  simp only [Act.put]
  refine WL.nil ?_
  refine hK6 _ _ ?_
  clear hK6 K6
  have hc1 := HC1.out _ HM.out.a
  refine wp_seq_k fun K7 hK7 => ?_
  refine wp_region_list (WL.out ?_)
  refine WL.val (by kernel_rfl) (.slice (some ⟨g4, 0, none⟩) N3 N3) (by go_simp) ?_
  simp only [Act.put, List.setIfInBounds_toArray, List.set_cons_zero, List.set_cons_succ]
  refine WL.val (by kernel_rfl) (.pointer (some ⟨g1, 1, none⟩)) (by go_simp) ?_
  simp only [Act.put, List.setIfInBounds_toArray, List.set_cons_zero, List.set_cons_succ]
  refine WL.val (by kernel_rfl) (.slice la N lc) (by go_simp) ?_
  simp only [Act.put, List.setIfInBounds_toArray, List.set_cons_zero, List.set_cons_succ]
  refine WL.val (by kernel_rfl) (.int .i64 (N : Int)) (by go_simp) ?_
  simp only [Act.put, List.setIfInBounds_toArray, List.set_cons_zero, List.set_cons_succ]
  refine WL.val (by kernel_rfl) (.int .i64 (N2 : Int)) (by go_simp) ?_
  simp only [Act.put, List.setIfInBounds_toArray, List.set_cons_zero, List.set_cons_succ]
  refine WL.bld (by kernel_rfl) 27 _ rfl [(0, .int .u8 9)] (by simp [Act.eval]) A9 HA9.out ?_
  simp only [Act.put, List.setIfInBounds_toArray, List.set_cons_zero, List.set_cons_succ]
  refine WL.val (by kernel_rfl) (.pointer (some ⟨g4, (N2) * 32, none⟩)) (by go_simp) ?_
  simp only [Act.put, List.setIfInBounds_toArray, List.set_cons_zero, List.set_cons_succ]
  refine WL.storeH (by kernel_rfl) _ _ rfl g4 (N2) (h7 9) I3 rfl (by simp [Act.eval]; exact HE9.out) HM.out.i (by rw [HI3.out]; omega) ?_
  have HM := Keep.mk (HM.out.set hn14 hge4 (I3.set (N2) (h7 9)))
  obtain ⟨I4, hI4⟩ : ∃ I, Keep (I = I3.set (N2) (h7 9)) := ⟨_, ⟨rfl⟩⟩
  rw [← hI4.out] at HM
  have HI4 : Keep (I4.length = N3) := ⟨by rw [hI4.out, List.length_set]; exact HI3.out⟩
  rw [← hI4.out]
  generalize w5.setRow g4 (flatH I4).toArray = w6 at *
  simp only [Act.put]
  refine WL.nil ?_
  refine hK7 _ _ ?_
  clear hK7 K7
  have HS3 := Keep.mk (set3 L (I0.drop L.length) (h7 7) (h7 8) (h7 9) N N1 N2 hN.out hN1.out hN2.out (by rw [List.length_drop, HI0.out, ← hN.out]; have := hN3.out; omega))
  rw [← hI1.out, ← hI2.out, ← hI3.out, ← hI4.out] at HS3
  clear hI0 hI1 hI2 hI3 hI4 HI0 HI1 HI2 HI3
  obtain ⟨DL, hDL⟩ : ∃ D, Keep (D = digL s L) := ⟨_, ⟨rfl⟩⟩
  have HDLl : Keep (DL.length ≤ 10000) := ⟨by rw [hDL.out, digL_len]; have := szN_rng L.length; omega⟩
  have HRF := Keep.mk (rOf_any s L _ w6 HSs.out (HR0.out.below HM.out.B) (by rw [← hN.out]; omega))
  rw [← hDL.out] at HRF
  have HOX : Keep (∀ wx, MS w g1 g4 ca I4 wx → Calls Try.prog 16 #[.int .u64 s, .slice (some ⟨g4, 0, none⟩) N N3] wx fun e w' => ∃ v', e = .returned v' ∧ FreshB wx v' DL w') := ⟨fun wx h => by
    have h1 := h.row N N3 (by rw [HI4.out]; omega) (by omega)
    rw [HS3.out.1] at h1
    rw [hDL.out]
    exact Of_any s L _ wx HSs.out h1 (by rw [← hN.out]; omega)⟩
  have HSM : Keep (∀ u v (J : List Int) wx, Own wx u J → Own wx v J → Calls Try.prog 17 #[u, v] wx fun r w' => r = .returned (.bool true) ∧ w' = wx) := ⟨fun u v J wx h1 h2 => same3_any _ _ J J wx h1.row h2.row true (by rw [beq_toListBytes, beq_self_eq_true])⟩
  have hc1 := HC1.out _ HM.out.a
  have hc0 := HC0.out _ HM.out.a
  go_wp2_with fail
  refine HRF.out.mono ?_
  rintro e w7 ⟨vt, rfl, hF⟩
  have hn := hF.new
  clear hF hc0 hc1 HRF hw1 hw2
  have HFt : Keep (∀ k, vt.ownBlock = some k → w.heap.size ≤ k) := ⟨fun k h => by have := hn.2.1 k h; have := HM.out.B.size; omega⟩
  have hbn := hn.2.2
  have HM := Keep.mk (HM.out.more hbn)
  have Ht := Keep.mk hn.1
  clear hn hbn
  go_wp2_with fail
  refine wp_region_held_drew (S := fun wx => MS w g1 g4 ca I4 wx) (by kernel_rfl) (HM.out.more (Below.refl _ _).drew) (fun hHeld => ?_)
  have hbd : Below w7.heap.size w7 w7.drew := (Below.refl _ _).drew
  have HM := Keep.mk (HM.out.more hbd)
  have Ht := Keep.mk (Ht.out.below' hbd)
  clear hbd
  generalize w7.drew = wd at *
  refine wpAnyH_take (i := 0) (oi := ⟨some 49, Op.fieldAddr 34 (Operand.tmp 1) 0, 0, _, _, none⟩) (v := .pointer (some ⟨g1, 0, none⟩)) rfl (by kernel_rfl) (by kernel_rfl) (by kernel_rfl) (fun _ _ _ h => h) (Or.inl ⟨by rfl, fun w hS => by go_simp⟩) hHeld ?_
  simp only [Act.put, List.setIfInBounds_toArray, List.set_cons_zero, List.set_cons_succ]
  refine wpAnyH_take (i := 1) (oi := ⟨some 50, Op.load 25 (Operand.tmp 49), 25, _, _, none⟩) (v := .int .u64 s) rfl (by kernel_rfl) (by kernel_rfl) (by kernel_rfl) (fun _ _ _ h => h) (Or.inl ⟨by rfl, fun w hS => by have h1 := HC0.out _ hS.a; go_simp⟩) hHeld ?_
  simp only [Act.put, List.setIfInBounds_toArray, List.set_cons_zero, List.set_cons_succ]
  refine wpAnyH_take (i := 2) (oi := ⟨some 51, Op.move (Operand.tmp 4), 32, _, _, none⟩) (v := .slice (some ⟨g4, 0, none⟩) N3 N3) rfl (by kernel_rfl) (by kernel_rfl) (by kernel_rfl) (fun _ _ _ h => h) (Or.inl ⟨by rfl, fun w hS => by go_simp⟩) hHeld ?_
  simp only [Act.put, List.setIfInBounds_toArray, List.set_cons_zero, List.set_cons_succ]
  refine wpAnyH_take (i := 3) (oi := ⟨some 52, Op.fieldAddr 34 (Operand.tmp 1) 1, 0, _, _, none⟩) (v := .pointer (some ⟨g1, 1, none⟩)) rfl (by kernel_rfl) (by kernel_rfl) (by kernel_rfl) (fun _ _ _ h => h) (Or.inl ⟨by rfl, fun w hS => by go_simp⟩) hHeld ?_
  simp only [Act.put, List.setIfInBounds_toArray, List.set_cons_zero, List.set_cons_succ]
  refine wpAnyH_take (i := 4) (oi := ⟨some 53, Op.load 32 (Operand.tmp 52), 32, _, _, none⟩) (v := .slice la N lc) rfl (by kernel_rfl) (by kernel_rfl) (by kernel_rfl) (fun _ _ _ h => h) (Or.inl ⟨by rfl, fun w hS => by have h1 := HC1.out _ hS.a; go_simp⟩) hHeld ?_
  simp only [Act.put, List.setIfInBounds_toArray, List.set_cons_zero, List.set_cons_succ]
  refine wpAnyH_take (i := 5) (oi := ⟨some 54, Op.call { callee := Callee.builtin Builtin.len, args := #[Operand.tmp 53], argTypes := #[32] }, 3, _, _, none⟩) (v := .int .i64 (N : Int)) rfl (by kernel_rfl) (by kernel_rfl) (by kernel_rfl) (fun _ _ _ h => h) (Or.inl ⟨by rfl, fun w hS => by go_simp⟩) hHeld ?_
  simp only [Act.put, List.setIfInBounds_toArray, List.set_cons_zero, List.set_cons_succ]
  refine wpAnyH_take (i := 6) (oi := ⟨some 55, Op.slice 32 (Operand.tmp 51) none (some (Operand.tmp 54)) none, 32, _, _, none⟩) (v := .slice (some ⟨g4, 0, none⟩) N N3) rfl (by kernel_rfl) (by kernel_rfl) (by kernel_rfl) (fun _ _ _ h => h) (Or.inl ⟨by rfl, fun w hS => by go_simp⟩) hHeld ?_
  simp only [Act.put, List.setIfInBounds_toArray, List.set_cons_zero, List.set_cons_succ]
  refine wpAnyH_ready (rs := [7]) (by kernel_rfl) (by simp) ?_
  refine AllReadyH.cons (o := ⟨some 56, Op.call { callee := Callee.value (Operand.func 16), args := #[Operand.tmp 50, Operand.tmp 55], argTypes := #[25, 32] }, 35, _, _, none⟩) rfl (fun K hK => ?_) (AllReadyH.nil)
  all_goals rw [if_pos (by rfl)]
  refine wp_callF 16 _ _ rfl Try.in16 #[.int .u64 s, .slice (some ⟨g4, 0, none⟩) N N3] (by simp [Act.eval]) (fun vz wz => FreshB wd vz DL wz) ?_ ?_
  · refine (HOX.out wd HM.out).mono ?_
    rintro e wz ⟨v', rfl, hn⟩
    exact ⟨_, rfl, hn⟩
  rintro vx w8 hF
  have hn := hF.new
  clear hF
  have HAtx : Keep (Apt2 vt vx) := ⟨fun k h1 h2 => by have := Ht.out.lt k h1; have := hn.2.1 k h2; omega⟩
  have HFx : Keep (∀ k, vx.ownBlock = some k → w.heap.size ≤ k) := ⟨fun k h => by have := hn.2.1 k h; have := HM.out.B.size; omega⟩
  have hbn := hn.2.2
  have HM := Keep.mk (HM.out.more hbn)
  have Ht := Keep.mk (Ht.out.below' hbn)
  have Hx := Keep.mk hn.1
  clear hn hbn
  refine hK.out _ _ HM.out fun hHeld => ?_
  clear hK
  simp only [Act.put, List.setIfInBounds_toArray, List.set_cons_zero, List.set_cons_succ]
  refine wpAnyH_take (i := 8) (oi := ⟨some 6, Op.assign (Operand.tmp 56), 35, _, _, none⟩) (v := vx) rfl (by kernel_rfl) (by kernel_rfl) (by kernel_rfl) (fun _ _ _ h => h) (Or.inl ⟨by rfl, fun w hS => by go_simp⟩) hHeld ?_
  simp only [Act.put, List.setIfInBounds_toArray, List.set_cons_zero, List.set_cons_succ]
  refine wpAnyH_done (by kernel_rfl) ?_ _
  clear hHeld
  go_wp2_with fail
  refine wp_region_held_drew (S := fun wx => MS w g1 g4 ca I4 wx) (by kernel_rfl) (HM.out.more (Below.refl _ _).drew) (fun hHeld => ?_)
  have hbd : Below w8.heap.size w8 w8.drew := (Below.refl _ _).drew
  have HM := Keep.mk (HM.out.more hbd)
  have Ht := Keep.mk (Ht.out.below' hbd)
  have Hx := Keep.mk (Hx.out.below' hbd)
  clear hbd
  generalize w8.drew = wd at *
  refine wpAnyH_take (i := 0) (oi := ⟨some 57, Op.fieldAddr 34 (Operand.tmp 1) 0, 0, _, _, none⟩) (v := .pointer (some ⟨g1, 0, none⟩)) rfl (by kernel_rfl) (by kernel_rfl) (by kernel_rfl) (fun _ _ _ h => h) (Or.inl ⟨by rfl, fun w hS => by go_simp⟩) hHeld ?_
  simp only [Act.put, List.setIfInBounds_toArray, List.set_cons_zero, List.set_cons_succ]
  refine wpAnyH_take (i := 1) (oi := ⟨some 58, Op.load 25 (Operand.tmp 57), 25, _, _, none⟩) (v := .int .u64 s) rfl (by kernel_rfl) (by kernel_rfl) (by kernel_rfl) (fun _ _ _ h => h) (Or.inl ⟨by rfl, fun w hS => by have h1 := HC0.out _ hS.a; go_simp⟩) hHeld ?_
  simp only [Act.put, List.setIfInBounds_toArray, List.set_cons_zero, List.set_cons_succ]
  refine wpAnyH_take (i := 2) (oi := ⟨some 59, Op.move (Operand.tmp 4), 32, _, _, none⟩) (v := .slice (some ⟨g4, 0, none⟩) N3 N3) rfl (by kernel_rfl) (by kernel_rfl) (by kernel_rfl) (fun _ _ _ h => h) (Or.inl ⟨by rfl, fun w hS => by go_simp⟩) hHeld ?_
  simp only [Act.put, List.setIfInBounds_toArray, List.set_cons_zero, List.set_cons_succ]
  refine wpAnyH_take (i := 3) (oi := ⟨some 60, Op.fieldAddr 34 (Operand.tmp 1) 1, 0, _, _, none⟩) (v := .pointer (some ⟨g1, 1, none⟩)) rfl (by kernel_rfl) (by kernel_rfl) (by kernel_rfl) (fun _ _ _ h => h) (Or.inl ⟨by rfl, fun w hS => by go_simp⟩) hHeld ?_
  simp only [Act.put, List.setIfInBounds_toArray, List.set_cons_zero, List.set_cons_succ]
  refine wpAnyH_take (i := 4) (oi := ⟨some 61, Op.load 32 (Operand.tmp 60), 32, _, _, none⟩) (v := .slice la N lc) rfl (by kernel_rfl) (by kernel_rfl) (by kernel_rfl) (fun _ _ _ h => h) (Or.inl ⟨by rfl, fun w hS => by have h1 := HC1.out _ hS.a; go_simp⟩) hHeld ?_
  simp only [Act.put, List.setIfInBounds_toArray, List.set_cons_zero, List.set_cons_succ]
  refine wpAnyH_take (i := 5) (oi := ⟨some 62, Op.call { callee := Callee.builtin Builtin.len, args := #[Operand.tmp 61], argTypes := #[32] }, 3, _, _, none⟩) (v := .int .i64 (N : Int)) rfl (by kernel_rfl) (by kernel_rfl) (by kernel_rfl) (fun _ _ _ h => h) (Or.inl ⟨by rfl, fun w hS => by go_simp⟩) hHeld ?_
  simp only [Act.put, List.setIfInBounds_toArray, List.set_cons_zero, List.set_cons_succ]
  refine wpAnyH_take (i := 6) (oi := ⟨some 63, Op.slice 32 (Operand.tmp 59) none (some (Operand.tmp 62)) none, 32, _, _, none⟩) (v := .slice (some ⟨g4, 0, none⟩) N N3) rfl (by kernel_rfl) (by kernel_rfl) (by kernel_rfl) (fun _ _ _ h => h) (Or.inl ⟨by rfl, fun w hS => by go_simp⟩) hHeld ?_
  simp only [Act.put, List.setIfInBounds_toArray, List.set_cons_zero, List.set_cons_succ]
  refine wpAnyH_ready (rs := [7]) (by kernel_rfl) (by simp) ?_
  refine AllReadyH.cons (o := ⟨some 64, Op.call { callee := Callee.value (Operand.func 16), args := #[Operand.tmp 58, Operand.tmp 63], argTypes := #[25, 32] }, 35, _, _, none⟩) rfl (fun K hK => ?_) (AllReadyH.nil)
  all_goals rw [if_pos (by rfl)]
  refine wp_callF 16 _ _ rfl Try.in16 #[.int .u64 s, .slice (some ⟨g4, 0, none⟩) N N3] (by simp [Act.eval]) (fun vz wz => FreshB wd vz DL wz) ?_ ?_
  · refine (HOX.out wd HM.out).mono ?_
    rintro e wz ⟨v', rfl, hn⟩
    exact ⟨_, rfl, hn⟩
  rintro vy w9 hF
  have hn := hF.new
  clear hF
  have HAty : Keep (Apt2 vt vy) := ⟨fun k h1 h2 => by have := Ht.out.lt k h1; have := hn.2.1 k h2; omega⟩
  have HAxy : Keep (Apt2 vx vy) := ⟨fun k h1 h2 => by have := Hx.out.lt k h1; have := hn.2.1 k h2; omega⟩
  have HFy : Keep (∀ k, vy.ownBlock = some k → w.heap.size ≤ k) := ⟨fun k h => by have := hn.2.1 k h; have := HM.out.B.size; omega⟩
  have hbn := hn.2.2
  have HM := Keep.mk (HM.out.more hbn)
  have Ht := Keep.mk (Ht.out.below' hbn)
  have Hx := Keep.mk (Hx.out.below' hbn)
  have Hy := Keep.mk hn.1
  clear hn hbn
  refine hK.out _ _ HM.out fun hHeld => ?_
  clear hK
  simp only [Act.put, List.setIfInBounds_toArray, List.set_cons_zero, List.set_cons_succ]
  refine wpAnyH_take (i := 8) (oi := ⟨some 7, Op.assign (Operand.tmp 64), 35, _, _, none⟩) (v := vy) rfl (by kernel_rfl) (by kernel_rfl) (by kernel_rfl) (fun _ _ _ h => h) (Or.inl ⟨by rfl, fun w hS => by go_simp⟩) hHeld ?_
  simp only [Act.put, List.setIfInBounds_toArray, List.set_cons_zero, List.set_cons_succ]
  refine wpAnyH_done (by kernel_rfl) ?_ _
  clear hHeld
  go_wp2_with fail
  refine (HSM.out vx vt DL w9 Hx.out Ht.out).mono ?_
  rintro e wq ⟨rfl, hq⟩
  rw [hq]
  clear hq
  go_wp2_with fail
  refine (HSM.out vy vt DL w9 Hy.out Ht.out).mono ?_
  rintro e wq ⟨rfl, hq⟩
  rw [hq]
  clear hq
  obtain ⟨w9, rfl⟩ : ∃ w9', w9' = w9 := ⟨_, rfl⟩
  have hu := Try.underlying27
  have hc1 := HC1.out _ HM.out.a
  have hq7 : (Op.equalIn 10000 27 (.agg A7) (.agg A7)).run Try.prog w9 = .ok true w9 := by rw [hA7.out]; exact run_equal_arr _ w9
  have hq8 : (Op.equalIn 10000 27 (.agg A8) (.agg A8)).run Try.prog w9 = .ok true w9 := by rw [hA8.out]; exact run_equal_arr _ w9
  have hq9 : (Op.equalIn 10000 27 (.agg A9) (.agg A9)).run Try.prog w9 = .ok true w9 := by rw [hA9.out]; exact run_equal_arr _ w9
  have hw1 : IntKind.i64.wrap ((N : Int) + 1) = (N1 : Int) := by rw [IntKind.wrap_i64]; have := hN1.out; omega
  have hw2 : IntKind.i64.wrap ((N : Int) + 2) = (N2 : Int) := by rw [IntKind.wrap_i64]; have := hN2.out; omega
  rename_i K1 hK1 K2 hK2
  refine hK2 _ _ ?_
  refine WL.out ?_
  refine WL.val (by kernel_rfl) (.bool true) (by go_simp) ?_
  simp only [Act.put, List.setIfInBounds_toArray, List.set_cons_zero, List.set_cons_succ]
  refine WL.nil ?_
  refine hK1 _ _ ?_
  clear hK1 hK2 K1 K2
  refine wp_seq_k fun K8 hK8 => ?_
  refine wp_seq_k fun K9 hK9 => ?_
  refine wp_region_list (WL.out ?_)
  refine WL.val (by kernel_rfl) (.bool true) (by go_simp) ?_
  simp only [Act.put, List.setIfInBounds_toArray, List.set_cons_zero, List.set_cons_succ]
  refine WL.val (by kernel_rfl) (.bool false) (by go_simp) ?_
  simp only [Act.put, List.setIfInBounds_toArray, List.set_cons_zero, List.set_cons_succ]
  refine WL.val (by kernel_rfl) (.bool false) (by go_simp) ?_
  simp only [Act.put, List.setIfInBounds_toArray, List.set_cons_zero, List.set_cons_succ]
  refine WL.val (by kernel_rfl) (.bool true) (by go_simp) ?_
  simp only [Act.put, List.setIfInBounds_toArray, List.set_cons_zero, List.set_cons_succ]
  refine WL.val (by kernel_rfl) (.bool false) (by go_simp) ?_
  simp only [Act.put, List.setIfInBounds_toArray, List.set_cons_zero, List.set_cons_succ]
  refine WL.val (by kernel_rfl) (.bool false) (by go_simp) ?_
  simp only [Act.put, List.setIfInBounds_toArray, List.set_cons_zero, List.set_cons_succ]
  refine WL.val (by kernel_rfl) (.bool false) (by go_simp) ?_
  simp only [Act.put, List.setIfInBounds_toArray, List.set_cons_zero, List.set_cons_succ]
  refine WL.val (by kernel_rfl) (.bool true) (by go_simp) ?_
  simp only [Act.put, List.setIfInBounds_toArray, List.set_cons_zero, List.set_cons_succ]
  refine WL.val (by kernel_rfl) (.bool false) (by go_simp) ?_
  simp only [Act.put, List.setIfInBounds_toArray, List.set_cons_zero, List.set_cons_succ]
  refine WL.val (by kernel_rfl) (.bool false) (by go_simp) ?_
  simp only [Act.put, List.setIfInBounds_toArray, List.set_cons_zero, List.set_cons_succ]
  refine WL.val (by kernel_rfl) (.bool false) (by go_simp) ?_
  simp only [Act.put, List.setIfInBounds_toArray, List.set_cons_zero, List.set_cons_succ]
  refine WL.val (by kernel_rfl) (.slice (some ⟨g4, 0, none⟩) N3 N3) (by go_simp) ?_
  simp only [Act.put, List.setIfInBounds_toArray, List.set_cons_zero, List.set_cons_succ]
  refine WL.val (by kernel_rfl) (.pointer (some ⟨g1, 1, none⟩)) (by go_simp) ?_
  simp only [Act.put, List.setIfInBounds_toArray, List.set_cons_zero, List.set_cons_succ]
  refine WL.val (by kernel_rfl) (.slice la N lc) (by go_simp) ?_
  simp only [Act.put, List.setIfInBounds_toArray, List.set_cons_zero, List.set_cons_succ]
  refine WL.val (by kernel_rfl) (.int .i64 (N : Int)) (by go_simp) ?_
  simp only [Act.put, List.setIfInBounds_toArray, List.set_cons_zero, List.set_cons_succ]
  refine WL.val (by kernel_rfl) (.pointer (some ⟨g4, N * 32, none⟩)) (by go_simp) ?_
  simp only [Act.put, List.setIfInBounds_toArray, List.set_cons_zero, List.set_cons_succ]
  refine WL.mid (by kernel_rfl) 27 _ rfl g4 (N * 32) rfl (encH (h7 7)) _ (HM.out.at (by rw [HI4.out]; omega) HS3.out.2.1) hu rfl (Try.size27L _) ?_
  rw [← HE7.out]
  simp only [Act.put, List.setIfInBounds_toArray, List.set_cons_zero, List.set_cons_succ]
  refine WL.bld (by kernel_rfl) 27 _ rfl [(0, .int .u8 7)] (by simp [Act.eval]) A7 HA7.out ?_
  simp only [Act.put, List.setIfInBounds_toArray, List.set_cons_zero, List.set_cons_succ]
  refine WL.val (by kernel_rfl) (.bool false) (by go_simp) ?_
  simp only [Act.put, List.setIfInBounds_toArray, List.set_cons_zero, List.set_cons_succ]
  refine WL.val (by kernel_rfl) (.bool false) (by go_simp) ?_
  simp only [Act.put, List.setIfInBounds_toArray, List.set_cons_zero, List.set_cons_succ]
  refine WL.val (by kernel_rfl) (.bool false) (by go_simp) ?_
  simp only [Act.put, List.setIfInBounds_toArray, List.set_cons_zero, List.set_cons_succ]
  refine WL.val (by kernel_rfl) (.slice (some ⟨g4, 0, none⟩) N3 N3) (by go_simp) ?_
  simp only [Act.put, List.setIfInBounds_toArray, List.set_cons_zero, List.set_cons_succ]
  refine WL.val (by kernel_rfl) (.pointer (some ⟨g1, 1, none⟩)) (by go_simp) ?_
  simp only [Act.put, List.setIfInBounds_toArray, List.set_cons_zero, List.set_cons_succ]
  refine WL.val (by kernel_rfl) (.slice la N lc) (by go_simp) ?_
  simp only [Act.put, List.setIfInBounds_toArray, List.set_cons_zero, List.set_cons_succ]
  refine WL.val (by kernel_rfl) (.int .i64 (N : Int)) (by go_simp) ?_
  simp only [Act.put, List.setIfInBounds_toArray, List.set_cons_zero, List.set_cons_succ]
  refine WL.val (by kernel_rfl) (.int .i64 (N1 : Int)) (by go_simp) ?_
  simp only [Act.put, List.setIfInBounds_toArray, List.set_cons_zero, List.set_cons_succ]
  refine WL.val (by kernel_rfl) (.pointer (some ⟨g4, N1 * 32, none⟩)) (by go_simp) ?_
  simp only [Act.put, List.setIfInBounds_toArray, List.set_cons_zero, List.set_cons_succ]
  refine WL.mid (by kernel_rfl) 27 _ rfl g4 (N1 * 32) rfl (encH (h7 8)) _ (HM.out.at (by rw [HI4.out]; omega) HS3.out.2.2.1) hu rfl (Try.size27L _) ?_
  rw [← HE8.out]
  simp only [Act.put, List.setIfInBounds_toArray, List.set_cons_zero, List.set_cons_succ]
  refine WL.bld (by kernel_rfl) 27 _ rfl [(0, .int .u8 8)] (by simp [Act.eval]) A8 HA8.out ?_
  simp only [Act.put, List.setIfInBounds_toArray, List.set_cons_zero, List.set_cons_succ]
  refine WL.val (by kernel_rfl) (.bool false) (by go_simp) ?_
  simp only [Act.put, List.setIfInBounds_toArray, List.set_cons_zero, List.set_cons_succ]
  refine WL.val (by kernel_rfl) (.bool false) (by go_simp) ?_
  simp only [Act.put, List.setIfInBounds_toArray, List.set_cons_zero, List.set_cons_succ]
  refine WL.val (by kernel_rfl) (.bool false) (by go_simp) ?_
  simp only [Act.put, List.setIfInBounds_toArray, List.set_cons_zero, List.set_cons_succ]
  refine WL.val (by kernel_rfl) (.slice (some ⟨g4, 0, none⟩) N3 N3) (by go_simp) ?_
  simp only [Act.put, List.setIfInBounds_toArray, List.set_cons_zero, List.set_cons_succ]
  refine WL.val (by kernel_rfl) (.pointer (some ⟨g1, 1, none⟩)) (by go_simp) ?_
  simp only [Act.put, List.setIfInBounds_toArray, List.set_cons_zero, List.set_cons_succ]
  refine WL.val (by kernel_rfl) (.slice la N lc) (by go_simp) ?_
  simp only [Act.put, List.setIfInBounds_toArray, List.set_cons_zero, List.set_cons_succ]
  refine WL.val (by kernel_rfl) (.int .i64 (N : Int)) (by go_simp) ?_
  simp only [Act.put, List.setIfInBounds_toArray, List.set_cons_zero, List.set_cons_succ]
  refine WL.val (by kernel_rfl) (.int .i64 (N2 : Int)) (by go_simp) ?_
  simp only [Act.put, List.setIfInBounds_toArray, List.set_cons_zero, List.set_cons_succ]
  refine WL.val (by kernel_rfl) (.pointer (some ⟨g4, N2 * 32, none⟩)) (by go_simp) ?_
  simp only [Act.put, List.setIfInBounds_toArray, List.set_cons_zero, List.set_cons_succ]
  refine WL.mid (by kernel_rfl) 27 _ rfl g4 (N2 * 32) rfl (encH (h7 9)) _ (HM.out.at (by rw [HI4.out]; omega) HS3.out.2.2.2) hu rfl (Try.size27L _) ?_
  rw [← HE9.out]
  simp only [Act.put, List.setIfInBounds_toArray, List.set_cons_zero, List.set_cons_succ]
  refine WL.bld (by kernel_rfl) 27 _ rfl [(0, .int .u8 9)] (by simp [Act.eval]) A9 HA9.out ?_
  simp only [Act.put, List.setIfInBounds_toArray, List.set_cons_zero, List.set_cons_succ]
  refine WL.val (by kernel_rfl) (.bool false) (by go_simp) ?_
  simp only [Act.put, List.setIfInBounds_toArray, List.set_cons_zero, List.set_cons_succ]
  refine WL.val (by kernel_rfl) (.bool false) (by go_simp) ?_
  simp only [Act.put, List.setIfInBounds_toArray, List.set_cons_zero, List.set_cons_succ]
  refine WL.nil ?_
  refine hK9 _ _ ?_
  clear hK9 K9
  refine wp_cond_false rfl ?_
  refine wp_skip ?_
  refine hK8 _ _ ?_
  clear hK8 K8 hq7 hq8 hq9 hc1 hw1 hw2
  have HLT : Keep (∀ j, j < N → I4[j]? = some (L.getD j default)) := ⟨fun j hj => by
    have h1 : (I4.take N)[j]? = L[j]? := by rw [HS3.out.1]
    rw [List.getElem?_take, if_pos hj] at h1
    rw [h1, List.getD_eq_getElem?_getD, List.getElem?_eq_getElem (by rw [← hN.out]; exact hj)]; rfl⟩
  clear HE7 HE8 HE9 HA7 HA8 HA9 hA7 hA8 hA9 hlt1 hlt2
  go_wp2_with fail
  go_loopw [10] (fun i wr => ∃ j : Nat, j ≤ N ∧ i = .int .i64 j ∧ MS w g1 g4 ca (IJ y I4 j) wr ∧ Own wr vt DL ∧ Own wr vx DL ∧ Own wr vy DL) (fun i _ => N - (intOf i).toNat)
  case atStart => exact ⟨0, by omega, rfl, HM.out, Ht.out, Hx.out, Hy.out⟩
  case round =>
    clear HM Ht Hx Hy
    obtain ⟨j, hj, rfl, hM, ht, hx, hy⟩ := hrel
    have HM := Keep.mk hM
    have Ht := Keep.mk ht
    have Hx := Keep.mk hx
    have Hy := Keep.mk hy
    clear hM ht hx hy
    have hc1 := HC1.out _ HM.out.a
    by_cases hlj : j < N
    · have hlj' : (j : Int) < N := by omega
      have hlj3 : (j : Int) < N3 := by omega
      obtain ⟨x, hxx⟩ : ∃ x, Keep (x = L.getD j default) := ⟨_, ⟨rfl⟩⟩
      obtain ⟨E, hE⟩ : ∃ E, Keep (E = IJ y I4 j) := ⟨_, ⟨rfl⟩⟩
      have hEj : Keep (E[j]? = some x) := ⟨by rw [hE.out, IJ_get y I4 j j (Nat.le_refl _), hxx.out]; exact HLT.out j hlj⟩
      have hEl : Keep (E.length = N3) := ⟨by rw [hE.out, IJ_len]; exact HI4.out⟩
      have HIJ : Keep (IJ y I4 (j + 1) = E.set j (hset y (bits .xor .u8 (y.f 0) ((j : Int) % 256)))) := ⟨by rw [hE.out]; rfl⟩
      rw [← hE.out] at HM
      obtain ⟨lb, lo, rfl, hrg⟩ := hash_at HR0.out (t := j) (by rw [← hN.out]; exact hlj)
      rw [← hxx.out] at hrg
      have HRGL : Keep (∀ wx, Below w.heap.size w wx → wx.rangeAt lb (lo + j * 32) (encH x)) := ⟨fun wx h => rangeAt_below hrg h (by
        have h1 := hrg 0 _ (encH_get x 0 (by omega))
        exact cell_lt h1)⟩
      obtain ⟨X, hX⟩ : ∃ X, Keep (X = (encH x).toArray) := ⟨_, ⟨rfl⟩⟩
      have HEQ : Keep (∀ wx, (Op.equalIn 10000 27 (.agg X) (.agg X)).run Try.prog wx = .ok true wx) := ⟨fun wx => by rw [hX.out, encH_arr]; exact run_equal_arr _ wx⟩
      have hiX : (Try.prog.info? 27).map (·.size) = some (encH x).length := Try.size27L x
      clear hrg
      go_wp2_with fail
      refine wp_region_held_drew (S := fun wx => MS w g1 g4 ca E wx) (by kernel_rfl) (HM.out.more (Below.refl _ _).drew) (fun hHeld => ?_)
      have hbd : Below wr.heap.size wr wr.drew := (Below.refl _ _).drew
      have HM := Keep.mk (HM.out.more hbd)
      have Ht := Keep.mk (Ht.out.below' hbd)
      have Hx := Keep.mk (Hx.out.below' hbd)
      have Hy := Keep.mk (Hy.out.below' hbd)
      clear hbd
      generalize wr.drew = wd at *
      refine wpAnyH_take (i := 0) (oi := ⟨some 120, Op.move (Operand.tmp 4), 32, _, _, none⟩) (v := .slice (some ⟨g4, 0, none⟩) N3 N3) rfl (by kernel_rfl) (by kernel_rfl) (by kernel_rfl) (fun _ _ _ h => h) (Or.inl ⟨by rfl, fun w hS => by go_simp⟩) hHeld ?_
      simp only [Act.put, List.setIfInBounds_toArray, List.set_cons_zero, List.set_cons_succ]
      refine wpAnyH_take (i := 1) (oi := ⟨some 121, Op.move (Operand.tmp 10), 3, _, _, none⟩) (v := .int .i64 (j : Int)) rfl (by kernel_rfl) (by kernel_rfl) (by kernel_rfl) (fun _ _ _ h => h) (Or.inl ⟨by rfl, fun w hS => by go_simp⟩) hHeld ?_
      simp only [Act.put, List.setIfInBounds_toArray, List.set_cons_zero, List.set_cons_succ]
      refine wpAnyH_take (i := 2) (oi := ⟨some 122, Op.indexAddr 32 (Operand.tmp 120) (Operand.tmp 121), 0, _, _, none⟩) (v := .pointer (some ⟨g4, j * 32, none⟩)) rfl (by kernel_rfl) (by kernel_rfl) (by kernel_rfl) (fun _ _ _ h => h) (Or.inl ⟨by rfl, fun w hS => by go_simp⟩) hHeld ?_
      simp only [Act.put, List.setIfInBounds_toArray, List.set_cons_zero, List.set_cons_succ]
      refine wpAnyH_take (i := 3) (oi := ⟨some 123, Op.load 27 (Operand.tmp 122), 27, _, _, none⟩) (v := .agg (encH x).toArray) rfl (by kernel_rfl) (by kernel_rfl) (by kernel_rfl) (fun _ _ _ h => h) (yieldsIf_load_mid (by rfl) 27 (Operand.tmp 122) rfl g4 (j * 32) rfl (encH x) _ (fun w hS => (hS.at (by rw [hEl.out]; omega) hEj.out)) hu rfl hiX) hHeld ?_
      simp only [Act.put, List.setIfInBounds_toArray, List.set_cons_zero, List.set_cons_succ]
      rw [← hX.out]
      refine wpAnyH_take (i := 4) (oi := ⟨some 124, Op.fieldAddr 34 (Operand.tmp 1) 1, 0, _, _, none⟩) (v := .pointer (some ⟨g1, 1, none⟩)) rfl (by kernel_rfl) (by kernel_rfl) (by kernel_rfl) (fun _ _ _ h => h) (Or.inl ⟨by rfl, fun w hS => by go_simp⟩) hHeld ?_
      simp only [Act.put, List.setIfInBounds_toArray, List.set_cons_zero, List.set_cons_succ]
      refine wpAnyH_take (i := 5) (oi := ⟨some 125, Op.load 32 (Operand.tmp 124), 32, _, _, none⟩) (v := .slice (some ⟨lb, lo, none⟩) N lc) rfl (by kernel_rfl) (by kernel_rfl) (by kernel_rfl) (fun _ _ _ h => h) (Or.inl ⟨by rfl, fun w hS => by have h1 := HC1.out _ hS.a; go_simp⟩) hHeld ?_
      simp only [Act.put, List.setIfInBounds_toArray, List.set_cons_zero, List.set_cons_succ]
      refine wpAnyH_take (i := 6) (oi := ⟨some 126, Op.move (Operand.tmp 10), 3, _, _, none⟩) (v := .int .i64 (j : Int)) rfl (by kernel_rfl) (by kernel_rfl) (by kernel_rfl) (fun _ _ _ h => h) (Or.inl ⟨by rfl, fun w hS => by go_simp⟩) hHeld ?_
      simp only [Act.put, List.setIfInBounds_toArray, List.set_cons_zero, List.set_cons_succ]
      refine wpAnyH_take (i := 7) (oi := ⟨some 127, Op.indexAddr 32 (Operand.tmp 125) (Operand.tmp 126), 0, _, _, none⟩) (v := .pointer (some ⟨lb, lo + j * 32, none⟩)) rfl (by kernel_rfl) (by kernel_rfl) (by kernel_rfl) (fun _ _ _ h => h) (Or.inl ⟨by rfl, fun w hS => by go_simp⟩) hHeld ?_
      simp only [Act.put, List.setIfInBounds_toArray, List.set_cons_zero, List.set_cons_succ]
      refine wpAnyH_take (i := 8) (oi := ⟨some 128, Op.load 27 (Operand.tmp 127), 27, _, _, none⟩) (v := .agg (encH x).toArray) rfl (by kernel_rfl) (by kernel_rfl) (by kernel_rfl) (fun _ _ _ h => h) (yieldsIf_load_mid (by rfl) 27 (Operand.tmp 127) rfl lb (lo + j * 32) rfl (encH x) _ (fun w hS => (HRGL.out _ hS.B)) hu rfl hiX) hHeld ?_
      simp only [Act.put, List.setIfInBounds_toArray, List.set_cons_zero, List.set_cons_succ]
      rw [← hX.out]
      refine wpAnyH_take (i := 9) (oi := ⟨some 129, Op.binOp BinOp.neq 27 (Operand.tmp 123) (Operand.tmp 128) 27, 4, _, _, none⟩) (v := .bool false) rfl (by kernel_rfl) (by kernel_rfl) (by kernel_rfl) (fun _ _ _ h => h) (Or.inl ⟨by rfl, fun w hS => by have h1 := HEQ.out w; go_simp⟩) hHeld ?_
      simp only [Act.put, List.setIfInBounds_toArray, List.set_cons_zero, List.set_cons_succ]
      refine wpAnyH_done (by kernel_rfl) ?_ _
      clear hHeld hc1
      have hgY := HCY.out _ HM.out.a
      go_wp2_with (first | (refine wpList_load_midG (by rfl) 27 (.tmp 132) rfl g1 2 rfl (encH y) _ hgY hu rfl (Try.size27L y) ?_) | (refine wpList_storeH rfl (.tmp 134) (.tmp 133) rfl g4 j y E rfl rfl HM.out.i (by rw [hEl.out]; omega) ?_; refine Hid.out ?_))
      refine hid_in ?_
      have Ht := Keep.mk (Ht.out.grown (Grown.setRow wd g4 (flatH (E.set j y)).toArray (S := fun k => k = g4) fun _ => rfl) (fun k hk e => Ht.out.ne HM.out.i (by decide) (e ▸ hk)))
      have Hx := Keep.mk (Hx.out.grown (Grown.setRow wd g4 (flatH (E.set j y)).toArray (S := fun k => k = g4) fun _ => rfl) (fun k hk e => Hx.out.ne HM.out.i (by decide) (e ▸ hk)))
      have Hy := Keep.mk (Hy.out.grown (Grown.setRow wd g4 (flatH (E.set j y)).toArray (S := fun k => k = g4) fun _ => rfl) (fun k hk e => Hy.out.ne HM.out.i (by decide) (e ▸ hk)))
      have HM := Keep.mk (HM.out.set hn14 hge4 (E.set j y))
      generalize wd.setRow g4 (flatH (E.set j y)).toArray = we at *
      clear hgY
      obtain ⟨c, hcc⟩ : ∃ c, Keep (c = bits .xor .u8 (y.f 0) ((j : Int) % 256)) := ⟨_, ⟨rfl⟩⟩
      have hcr : 0 ≤ c ∧ c < 256 := by rw [hcc.out]; exact xor_u8 _ _ (y.bnd 0 (by omega)) (by omega)
      have hwj : IntKind.u8.wrap (j : Int) = (j : Int) % 256 := IntKind.wrap_u8 _
      have hxo : bits .xor .u8 (y.f 0) ((j : Int) % 256) = c := hcc.out.symm
      have hcell : we.drew.cell? ⟨g4, j * 32, none⟩ = some (.int .u8 (y.f 0)) := by
        have h1 := (HM.out.at (k := j) (by rw [List.length_set, hEl.out]; omega) (x := y) (by rw [List.getElem?_set, if_pos rfl, if_pos (by rw [hEl.out]; omega)])) 0 _ (encH_get y 0 (by omega))
        exact h1
      have hfz : we.drew.frozen? ⟨g4, j * 32, none⟩ = false := HM.out.i.drew.frozen _
      have HMd := Keep.mk (HM.out.more (Below.refl _ _).drew)
      have HMn : Keep (MS w g1 g4 ca (E.set j (hset y c)) (we.drew.setCell ⟨g4, j * 32, none⟩ (.int .u8 c))) := ⟨⟨HMd.out.a.set_ne (b' := g4) (j := j * 32) hn14 (.int .u8 c), xset E j y c (by rw [hEl.out]; omega) hcr HMd.out.i, HMd.out.B.setCell hge4 (p := ⟨g4, j * 32, none⟩) (.int .u8 c)⟩⟩
      rw [hxo] at HIJ
      rw [← HIJ.out] at HMn
      have Htn := Keep.mk ((Ht.out.below' (Below.refl _ _).drew).grown (Grown.setCell we.drew g4 (j * 32) (.int .u8 c) (S := fun k => k = g4) fun _ => rfl) (fun k hk e => Ht.out.ne HM.out.i (by decide) (e ▸ hk)))
      have Hxn := Keep.mk ((Hx.out.below' (Below.refl _ _).drew).grown (Grown.setCell we.drew g4 (j * 32) (.int .u8 c) (S := fun k => k = g4) fun _ => rfl) (fun k hk e => Hx.out.ne HM.out.i (by decide) (e ▸ hk)))
      have Hyn := Keep.mk ((Hy.out.below' (Below.refl _ _).drew).grown (Grown.setCell we.drew g4 (j * 32) (.int .u8 c) (S := fun k => k = g4) fun _ => rfl) (fun k hk e => Hy.out.ne HM.out.i (by decide) (e ▸ hk)))
      clear HM Ht Hx Hy HMd HIJ hcr HEQ HRGL hiX
      generalize y.f 0 = y0 at *
      go_wp2_with fail
      refine wp_region_held_drew (S := fun _ => True) (by kernel_rfl) trivial (fun hHeld => ?_)
      generalize we.drew = wf at *
      refine wpAnyH_take (i := 0) (oi := ⟨some 135, Op.move (Operand.tmp 4), 32, _, _, none⟩) (v := .slice (some ⟨g4, 0, none⟩) N3 N3) rfl (by kernel_rfl) (by kernel_rfl) (by kernel_rfl) (fun _ _ _ h => h) (Or.inl ⟨by rfl, fun w hS => by go_simp⟩) hHeld ?_
      simp only [Act.put, List.setIfInBounds_toArray, List.set_cons_zero, List.set_cons_succ]
      refine wpAnyH_take (i := 1) (oi := ⟨some 136, Op.move (Operand.tmp 10), 3, _, _, none⟩) (v := .int .i64 (j : Int)) rfl (by kernel_rfl) (by kernel_rfl) (by kernel_rfl) (fun _ _ _ h => h) (Or.inl ⟨by rfl, fun w hS => by go_simp⟩) hHeld ?_
      simp only [Act.put, List.setIfInBounds_toArray, List.set_cons_zero, List.set_cons_succ]
      refine wpAnyH_take (i := 2) (oi := ⟨some 137, Op.indexAddr 32 (Operand.tmp 135) (Operand.tmp 136), 0, _, _, none⟩) (v := .pointer (some ⟨g4, j * 32, none⟩)) rfl (by kernel_rfl) (by kernel_rfl) (by kernel_rfl) (fun _ _ _ h => h) (Or.inl ⟨by rfl, fun w hS => by go_simp⟩) hHeld ?_
      simp only [Act.put, List.setIfInBounds_toArray, List.set_cons_zero, List.set_cons_succ]
      refine wpAnyH_take (i := 3) (oi := ⟨some 138, Op.indexAddr 27 (Operand.tmp 137) (Operand.const (Value.int IntKind.i64 0)), 0, _, _, none⟩) (v := .pointer (some ⟨g4, j * 32, none⟩)) rfl (by kernel_rfl) (by kernel_rfl) (by kernel_rfl) (fun _ _ _ h => h) (Or.inl ⟨by rfl, fun w hS => by go_simp⟩) hHeld ?_
      simp only [Act.put, List.setIfInBounds_toArray, List.set_cons_zero, List.set_cons_succ]
      refine wpAnyH_take (i := 5) (oi := ⟨some 140, Op.move (Operand.tmp 10), 3, _, _, none⟩) (v := .int .i64 (j : Int)) rfl (by kernel_rfl) (by kernel_rfl) (by kernel_rfl) (fun _ _ _ h => h) (Or.inl ⟨by rfl, fun w hS => by go_simp⟩) hHeld ?_
      simp only [Act.put, List.setIfInBounds_toArray, List.set_cons_zero, List.set_cons_succ]
      refine wpAnyH_take (i := 6) (oi := ⟨some 141, Op.convert 3 5 (Operand.tmp 140), 5, _, _, none⟩) (v := .int .u8 ((j : Int) % 256)) rfl (by kernel_rfl) (by kernel_rfl) (by kernel_rfl) (fun _ _ _ h => h) (Or.inl ⟨by rfl, fun w hS => by go_simp⟩) hHeld ?_
      simp only [Act.put, List.setIfInBounds_toArray, List.set_cons_zero, List.set_cons_succ]
      refine wpAnyH_take (i := 8) (oi := ⟨some 143, Op.indexAddr 32 (Operand.tmp 135) (Operand.tmp 136), 0, _, _, none⟩) (v := .pointer (some ⟨g4, j * 32, none⟩)) rfl (by kernel_rfl) (by kernel_rfl) (by kernel_rfl) (fun _ _ _ h => h) (Or.inl ⟨by rfl, fun w hS => by go_simp⟩) hHeld ?_
      simp only [Act.put, List.setIfInBounds_toArray, List.set_cons_zero, List.set_cons_succ]
      refine wpAnyH_ready (rs := [4]) (by kernel_rfl) (by simp) ?_
      refine AllReadyH.cons (o := ⟨some 139, Op.load 5 (Operand.tmp 138), 5, _, _, none⟩) rfl (fun K hK => ?_) (AllReadyH.nil)
      all_goals rw [if_pos (by rfl)]
      refine wp_val (.int .u8 y0) (by go_simp) ?_
      refine hK.out _ _ trivial fun hHeld => ?_
      clear hK
      simp only [Act.put, List.setIfInBounds_toArray, List.set_cons_zero, List.set_cons_succ]
      refine wpAnyH_take (i := 7) (oi := ⟨some 142, Op.binOp BinOp.xor 5 (Operand.tmp 139) (Operand.tmp 141) 5, 5, _, _, none⟩) (v := .int .u8 c) rfl (by kernel_rfl) (by kernel_rfl) (by kernel_rfl) (fun _ _ _ h => h) (Or.inl ⟨by rfl, fun w hS => by go_simp⟩) hHeld ?_
      simp only [Act.put, List.setIfInBounds_toArray, List.set_cons_zero, List.set_cons_succ]
      refine wpAnyH_take (i := 9) (oi := ⟨some 144, Op.indexAddr 27 (Operand.tmp 143) (Operand.const (Value.int IntKind.i64 0)), 0, _, _, none⟩) (v := .pointer (some ⟨g4, j * 32, none⟩)) rfl (by kernel_rfl) (by kernel_rfl) (by kernel_rfl) (fun _ _ _ h => h) (Or.inl ⟨by rfl, fun w hS => by go_simp⟩) hHeld ?_
      simp only [Act.put, List.setIfInBounds_toArray, List.set_cons_zero, List.set_cons_succ]
      refine wpAnyH_ready (rs := [10]) (by kernel_rfl) (by simp) ?_
      refine AllReadyH.cons (o := ⟨none, Op.store 5 (Operand.tmp 144) (Operand.tmp 142), 0, _, _, none⟩) rfl (fun K hK => ?_) (AllReadyH.nil)
      all_goals rw [if_pos (by rfl)]
      go_simp
      refine hK.out _ _ trivial fun _ => ?_
      clear hK
      refine wpAnyH_done (by kernel_rfl) ?_ _
      generalize wf.setCell ⟨g4, j * 32, none⟩ (.int .u8 c) = wg at *
      clear hcell hfz hHeld hxo
      go_wp2
      go_roundw
      case rel => exact ⟨j + 1, by omega, by go_num, HMn.out, Htn.out, Hxn.out, Hyn.out⟩
      case measure => simp only [intOf]; omega
    · obtain rfl : N = j := by omega
      obtain ⟨I5, hI5⟩ : ∃ I, Keep (I = IJ y I4 N) := ⟨_, ⟨rfl⟩⟩
      have HI5 : Keep (I5.length = N3) := ⟨by rw [hI5.out, IJ_len]; exact HI4.out⟩
      rw [← hI5.out] at HM
      obtain ⟨DM, hDM⟩ : ∃ D, Keep (D = digL s (I5.take N)) := ⟨_, ⟨rfl⟩⟩
      have HDMl : Keep (DM.length ≤ 10000) := ⟨by rw [hDM.out, digL_len]; have := szN_rng (I5.take N).length; omega⟩
      have HOZ : Keep (∀ wx, MS w g1 g4 ca I5 wx → Calls Try.prog 16 #[.int .u64 s, .slice (some ⟨g4, 0, none⟩) N N3] wx fun e w' => ∃ v', e = .returned v' ∧ FreshB wx v' DM w') := ⟨fun wx h => by
        rw [hDM.out]
        exact Of_any s _ _ wx HSs.out (h.row N N3 (by rw [HI5.out]; omega) (by omega)) (by rw [List.length_take]; omega)⟩
      have HRZ : Keep (∀ wx, MS w g1 g4 ca I5 wx → Calls Try.prog 15 #[.int .u64 s, .slice (some ⟨g4, 0, none⟩) N N3] wx fun e w' => ∃ v', e = .returned v' ∧ FreshB wx v' DM w') := ⟨fun wx h => by
        rw [hDM.out]
        exact rOf_any s _ _ wx HSs.out (h.row N N3 (by rw [HI5.out]; omega) (by omega)) (by rw [List.length_take]; omega)⟩
      go_wp2_with fail
      refine wp_region_held_drew (S := fun wx => MS w g1 g4 ca I5 wx) (by kernel_rfl) (HM.out.more (Below.refl _ _).drew) (fun hHeld => ?_)
      have hbd : Below wr.heap.size wr wr.drew := (Below.refl _ _).drew
      have HM := Keep.mk (HM.out.more hbd)
      have Ht := Keep.mk (Ht.out.below' hbd)
      have Hx := Keep.mk (Hx.out.below' hbd)
      have Hy := Keep.mk (Hy.out.below' hbd)
      clear hbd
      generalize wr.drew = wd at *
      refine wpAnyH_take (i := 0) (oi := ⟨some 145, Op.fieldAddr 34 (Operand.tmp 1) 0, 0, _, _, none⟩) (v := .pointer (some ⟨g1, 0, none⟩)) rfl (by kernel_rfl) (by kernel_rfl) (by kernel_rfl) (fun _ _ _ h => h) (Or.inl ⟨by rfl, fun w hS => by go_simp⟩) hHeld ?_
      simp only [Act.put, List.setIfInBounds_toArray, List.set_cons_zero, List.set_cons_succ]
      refine wpAnyH_take (i := 1) (oi := ⟨some 146, Op.load 25 (Operand.tmp 145), 25, _, _, none⟩) (v := .int .u64 s) rfl (by kernel_rfl) (by kernel_rfl) (by kernel_rfl) (fun _ _ _ h => h) (Or.inl ⟨by rfl, fun w hS => by have h1 := HC0.out _ hS.a; go_simp⟩) hHeld ?_
      simp only [Act.put, List.setIfInBounds_toArray, List.set_cons_zero, List.set_cons_succ]
      refine wpAnyH_take (i := 2) (oi := ⟨some 147, Op.move (Operand.tmp 4), 32, _, _, none⟩) (v := .slice (some ⟨g4, 0, none⟩) N3 N3) rfl (by kernel_rfl) (by kernel_rfl) (by kernel_rfl) (fun _ _ _ h => h) (Or.inl ⟨by rfl, fun w hS => by go_simp⟩) hHeld ?_
      simp only [Act.put, List.setIfInBounds_toArray, List.set_cons_zero, List.set_cons_succ]
      refine wpAnyH_take (i := 3) (oi := ⟨some 148, Op.fieldAddr 34 (Operand.tmp 1) 1, 0, _, _, none⟩) (v := .pointer (some ⟨g1, 1, none⟩)) rfl (by kernel_rfl) (by kernel_rfl) (by kernel_rfl) (fun _ _ _ h => h) (Or.inl ⟨by rfl, fun w hS => by go_simp⟩) hHeld ?_
      simp only [Act.put, List.setIfInBounds_toArray, List.set_cons_zero, List.set_cons_succ]
      refine wpAnyH_take (i := 4) (oi := ⟨some 149, Op.load 32 (Operand.tmp 148), 32, _, _, none⟩) (v := .slice la N lc) rfl (by kernel_rfl) (by kernel_rfl) (by kernel_rfl) (fun _ _ _ h => h) (Or.inl ⟨by rfl, fun w hS => by have h1 := HC1.out _ hS.a; go_simp⟩) hHeld ?_
      simp only [Act.put, List.setIfInBounds_toArray, List.set_cons_zero, List.set_cons_succ]
      refine wpAnyH_take (i := 5) (oi := ⟨some 150, Op.call { callee := Callee.builtin Builtin.len, args := #[Operand.tmp 149], argTypes := #[32] }, 3, _, _, none⟩) (v := .int .i64 (N : Int)) rfl (by kernel_rfl) (by kernel_rfl) (by kernel_rfl) (fun _ _ _ h => h) (Or.inl ⟨by rfl, fun w hS => by go_simp⟩) hHeld ?_
      simp only [Act.put, List.setIfInBounds_toArray, List.set_cons_zero, List.set_cons_succ]
      refine wpAnyH_take (i := 6) (oi := ⟨some 151, Op.slice 32 (Operand.tmp 147) none (some (Operand.tmp 150)) none, 32, _, _, none⟩) (v := .slice (some ⟨g4, 0, none⟩) N N3) rfl (by kernel_rfl) (by kernel_rfl) (by kernel_rfl) (fun _ _ _ h => h) (Or.inl ⟨by rfl, fun w hS => by go_simp⟩) hHeld ?_
      simp only [Act.put, List.setIfInBounds_toArray, List.set_cons_zero, List.set_cons_succ]
      refine wpAnyH_ready (rs := [7]) (by kernel_rfl) (by simp) ?_
      refine AllReadyH.cons (o := ⟨some 152, Op.call { callee := Callee.value (Operand.func 16), args := #[Operand.tmp 146, Operand.tmp 151], argTypes := #[25, 32] }, 35, _, _, none⟩) rfl (fun K hK => ?_) (AllReadyH.nil)
      all_goals rw [if_pos (by rfl)]
      refine wp_callF 16 _ _ rfl Try.in16 #[.int .u64 s, .slice (some ⟨g4, 0, none⟩) N N3] (by simp [Act.eval]) (fun vz wz => FreshB wd vz DM wz) ?_ ?_
      · refine (HOZ.out wd HM.out).mono ?_
        rintro e wz ⟨v', rfl, hn⟩
        exact ⟨_, rfl, hn⟩
      rintro vz w11 hF
      have hn := hF.new
      clear hF
      have HAtz : Keep (Apt2 vt vz) := ⟨fun k h1 h2 => by have := Ht.out.lt k h1; have := hn.2.1 k h2; omega⟩
      have HAxz : Keep (Apt2 vx vz) := ⟨fun k h1 h2 => by have := Hx.out.lt k h1; have := hn.2.1 k h2; omega⟩
      have HAyz : Keep (Apt2 vy vz) := ⟨fun k h1 h2 => by have := Hy.out.lt k h1; have := hn.2.1 k h2; omega⟩
      have HFz : Keep (∀ k, vz.ownBlock = some k → w.heap.size ≤ k) := ⟨fun k h => by have := hn.2.1 k h; have := HM.out.B.size; omega⟩
      have hbn := hn.2.2
      have HM := Keep.mk (HM.out.more hbn)
      have Ht := Keep.mk (Ht.out.below' hbn)
      have Hx := Keep.mk (Hx.out.below' hbn)
      have Hy := Keep.mk (Hy.out.below' hbn)
      have Hz := Keep.mk hn.1
      clear hn hbn
      refine hK.out _ _ HM.out fun hHeld => ?_
      clear hK
      simp only [Act.put, List.setIfInBounds_toArray, List.set_cons_zero, List.set_cons_succ]
      refine wpAnyH_take (i := 8) (oi := ⟨some 11, Op.assign (Operand.tmp 152), 35, _, _, none⟩) (v := vz) rfl (by kernel_rfl) (by kernel_rfl) (by kernel_rfl) (fun _ _ _ h => h) (Or.inl ⟨by rfl, fun w hS => by go_simp⟩) hHeld ?_
      simp only [Act.put, List.setIfInBounds_toArray, List.set_cons_zero, List.set_cons_succ]
      refine wpAnyH_done (by kernel_rfl) ?_ _
      clear hHeld
      go_wp2_with fail
      refine wp_region_held_drew (S := fun wx => MS w g1 g4 ca I5 wx) (by kernel_rfl) (HM.out.more (Below.refl _ _).drew) (fun hHeld => ?_)
      have hbd : Below w11.heap.size w11 w11.drew := (Below.refl _ _).drew
      have HM := Keep.mk (HM.out.more hbd)
      have Ht := Keep.mk (Ht.out.below' hbd)
      have Hx := Keep.mk (Hx.out.below' hbd)
      have Hy := Keep.mk (Hy.out.below' hbd)
      have Hz := Keep.mk (Hz.out.below' hbd)
      clear hbd
      generalize w11.drew = wd at *
      refine wpAnyH_take (i := 0) (oi := ⟨some 153, Op.move (Operand.tmp 11), 35, _, _, none⟩) (v := vz) rfl (by kernel_rfl) (by kernel_rfl) (by kernel_rfl) (fun _ _ _ h => h) (Or.inl ⟨by rfl, fun w hS => by go_simp⟩) hHeld ?_
      simp only [Act.put, List.setIfInBounds_toArray, List.set_cons_zero, List.set_cons_succ]
      refine wpAnyH_take (i := 1) (oi := ⟨some 154, Op.fieldAddr 34 (Operand.tmp 1) 0, 0, _, _, none⟩) (v := .pointer (some ⟨g1, 0, none⟩)) rfl (by kernel_rfl) (by kernel_rfl) (by kernel_rfl) (fun _ _ _ h => h) (Or.inl ⟨by rfl, fun w hS => by go_simp⟩) hHeld ?_
      simp only [Act.put, List.setIfInBounds_toArray, List.set_cons_zero, List.set_cons_succ]
      refine wpAnyH_take (i := 2) (oi := ⟨some 155, Op.load 25 (Operand.tmp 154), 25, _, _, none⟩) (v := .int .u64 s) rfl (by kernel_rfl) (by kernel_rfl) (by kernel_rfl) (fun _ _ _ h => h) (Or.inl ⟨by rfl, fun w hS => by have h1 := HC0.out _ hS.a; go_simp⟩) hHeld ?_
      simp only [Act.put, List.setIfInBounds_toArray, List.set_cons_zero, List.set_cons_succ]
      refine wpAnyH_take (i := 3) (oi := ⟨some 156, Op.move (Operand.tmp 4), 32, _, _, none⟩) (v := .slice (some ⟨g4, 0, none⟩) N3 N3) rfl (by kernel_rfl) (by kernel_rfl) (by kernel_rfl) (fun _ _ _ h => h) (Or.inl ⟨by rfl, fun w hS => by go_simp⟩) hHeld ?_
      simp only [Act.put, List.setIfInBounds_toArray, List.set_cons_zero, List.set_cons_succ]
      refine wpAnyH_take (i := 4) (oi := ⟨some 157, Op.fieldAddr 34 (Operand.tmp 1) 1, 0, _, _, none⟩) (v := .pointer (some ⟨g1, 1, none⟩)) rfl (by kernel_rfl) (by kernel_rfl) (by kernel_rfl) (fun _ _ _ h => h) (Or.inl ⟨by rfl, fun w hS => by go_simp⟩) hHeld ?_
      simp only [Act.put, List.setIfInBounds_toArray, List.set_cons_zero, List.set_cons_succ]
      refine wpAnyH_take (i := 5) (oi := ⟨some 158, Op.load 32 (Operand.tmp 157), 32, _, _, none⟩) (v := .slice la N lc) rfl (by kernel_rfl) (by kernel_rfl) (by kernel_rfl) (fun _ _ _ h => h) (Or.inl ⟨by rfl, fun w hS => by have h1 := HC1.out _ hS.a; go_simp⟩) hHeld ?_
      simp only [Act.put, List.setIfInBounds_toArray, List.set_cons_zero, List.set_cons_succ]
      refine wpAnyH_take (i := 6) (oi := ⟨some 159, Op.call { callee := Callee.builtin Builtin.len, args := #[Operand.tmp 158], argTypes := #[32] }, 3, _, _, none⟩) (v := .int .i64 (N : Int)) rfl (by kernel_rfl) (by kernel_rfl) (by kernel_rfl) (fun _ _ _ h => h) (Or.inl ⟨by rfl, fun w hS => by go_simp⟩) hHeld ?_
      simp only [Act.put, List.setIfInBounds_toArray, List.set_cons_zero, List.set_cons_succ]
      refine wpAnyH_take (i := 7) (oi := ⟨some 160, Op.slice 32 (Operand.tmp 156) none (some (Operand.tmp 159)) none, 32, _, _, none⟩) (v := .slice (some ⟨g4, 0, none⟩) N N3) rfl (by kernel_rfl) (by kernel_rfl) (by kernel_rfl) (fun _ _ _ h => h) (Or.inl ⟨by rfl, fun w hS => by go_simp⟩) hHeld ?_
      simp only [Act.put, List.setIfInBounds_toArray, List.set_cons_zero, List.set_cons_succ]
      refine wpAnyH_ready (rs := [8]) (by kernel_rfl) (by simp) ?_
      refine AllReadyH.cons (o := ⟨some 161, Op.call { callee := Callee.value (Operand.func 15), args := #[Operand.tmp 155, Operand.tmp 160], argTypes := #[25, 32] }, 35, _, _, none⟩) rfl (fun K hK => ?_) (AllReadyH.nil)
      all_goals rw [if_pos (by rfl)]
      refine wp_callF 15 _ _ rfl Try.in15 #[.int .u64 s, .slice (some ⟨g4, 0, none⟩) N N3] (by simp [Act.eval]) (fun vz wz => FreshB wd vz DM wz) ?_ ?_
      · refine (HRZ.out wd HM.out).mono ?_
        rintro e wz ⟨v', rfl, hn⟩
        exact ⟨_, rfl, hn⟩
      rintro vn w12 hF
      have hn := hF.new
      clear hF
      have HAtn : Keep (Apt2 vt vn) := ⟨fun k h1 h2 => by have := Ht.out.lt k h1; have := hn.2.1 k h2; omega⟩
      have HAxn : Keep (Apt2 vx vn) := ⟨fun k h1 h2 => by have := Hx.out.lt k h1; have := hn.2.1 k h2; omega⟩
      have HAyn : Keep (Apt2 vy vn) := ⟨fun k h1 h2 => by have := Hy.out.lt k h1; have := hn.2.1 k h2; omega⟩
      have HAzn : Keep (Apt2 vz vn) := ⟨fun k h1 h2 => by have := Hz.out.lt k h1; have := hn.2.1 k h2; omega⟩
      have HFn : Keep (∀ k, vn.ownBlock = some k → w.heap.size ≤ k) := ⟨fun k h => by have := hn.2.1 k h; have := HM.out.B.size; omega⟩
      have hbn := hn.2.2
      have HM := Keep.mk (HM.out.more hbn)
      have Ht := Keep.mk (Ht.out.below' hbn)
      have Hx := Keep.mk (Hx.out.below' hbn)
      have Hy := Keep.mk (Hy.out.below' hbn)
      have Hz := Keep.mk (Hz.out.below' hbn)
      have Hn := Keep.mk hn.1
      clear hn hbn
      refine hK.out _ _ HM.out fun hHeld => ?_
      clear hK
      simp only [Act.put, List.setIfInBounds_toArray, List.set_cons_zero, List.set_cons_succ]
      refine wpAnyH_ready (rs := [9]) (by kernel_rfl) (by simp) ?_
      refine AllReadyH.cons (o := ⟨some 162, Op.call { callee := Callee.value (Operand.func 17), args := #[Operand.tmp 153, Operand.tmp 161], argTypes := #[35, 35] }, 4, _, _, none⟩) rfl (fun K hK => ?_) (AllReadyH.nil)
      all_goals rw [if_pos (by rfl)]
      refine wp_callF 17 _ _ rfl Try.in17 #[vz, vn] (by simp [Act.eval]) (fun vq wq => vq = .bool true ∧ wq = w12) ?_ ?_
      · refine (HSM.out vz vn DM w12 Hz.out Hn.out).mono ?_
        rintro e wz ⟨rfl, rfl⟩
        exact ⟨_, rfl, rfl, rfl⟩
      rintro vq wq ⟨rfl, rfl⟩
      refine hK.out _ _ HM.out fun hHeld => ?_
      clear hK
      simp only [Act.put, List.setIfInBounds_toArray, List.set_cons_zero, List.set_cons_succ]
      refine wpAnyH_take (i := 10) (oi := ⟨some 12, Op.assign (Operand.tmp 162), 4, _, _, none⟩) (v := .bool true) rfl (by kernel_rfl) (by kernel_rfl) (by kernel_rfl) (fun _ _ _ h => h) (Or.inl ⟨by rfl, fun w hS => by go_simp⟩) hHeld ?_
      simp only [Act.put, List.setIfInBounds_toArray, List.set_cons_zero, List.set_cons_succ]
      refine wpAnyH_done (by kernel_rfl) ?_ _
      clear hHeld
      go_wp2_with fail
      refine (HSM.out vx vt DL _ Hx.out Ht.out).mono ?_
      rintro e wq2 ⟨rfl, hq⟩
      rw [hq]
      clear hq
      obtain ⟨xa, xn, xc, rfl⟩ := Hx.out.sl
      obtain ⟨ya, yn, yc, rfl⟩ := Hy.out.sl
      obtain ⟨za, zn, zc, rfl⟩ := Hz.out.sl
      have HG := Keep.mk (grown3_any _ _ _ DL DL DM w _ Hx.out Hy.out Hz.out HAxy.out HAxz.out HAyz.out HFx.out HFy.out HFz.out HM.out.B HDLl.out HDLl.out HDMl.out)
      go_wp2_with fail
      refine HG.out.mono ?_
      rintro e w14 ⟨rfl, hb14⟩
      have HB := Keep.mk hb14
      clear hb14
      go_wp2
      go_ret
      exact ⟨rfl, HB.out⟩

end Go.Proofs.Ytfheinghkigocaa
namespace Go.Proofs.Ytfheinghkigocaa
open Go.ChangeShapes Go.WideShapes Go.ChangeAt Go.RowKit Go.Deep
set_option linter.unusedSimpArgs false
set_option linter.unusedVariables false

theorem Try.cellsOf35 : Try.prog.cellsOf 35 = 1 := by kernel_rfl
theorem Try.cellsOf32 : Try.prog.cellsOf 32 = 1 := by kernel_rfl
theorem Try.cellsOf25 : Try.prog.cellsOf 25 = 1 := by kernel_rfl
theorem Try.cellsOf3 : Try.prog.cellsOf 3 = 1 := by kernel_rfl
theorem Try.cellsOf5 : Try.prog.cellsOf 5 = 1 := by kernel_rfl
theorem Try.cellsOf27 : Try.prog.cellsOf 27 = 32 := by kernel_rfl
theorem Try.bytesOf5 : Try.prog.bytesOf 5 = 1 := by kernel_rfl
theorem Try.bytesOf27 : Try.prog.bytesOf 27 = 32 := by kernel_rfl
theorem reach_is : reachBytes = 140737488351232 := by decide
theorem add_none' (b o i : Nat) : (⟨b, o, none⟩ : Addr).add i = ⟨b, o + i, none⟩ := by
  cases i with
  | zero => rfl
  | succ i => rfl
theorem wf_u8 {n : Int} (h : (Lit.int .u8 n).wf = true) : 0 ≤ n ∧ n < 256 := by
  have h1 : IntKind.u8.min = 0 := by decide
  have h2 : IntKind.u8.max = 255 := by decide
  simp only [Lit.wf, h1, h2, Bool.and_eq_true, decide_eq_true_eq] at h
  omega
theorem wf_i64 {n : Int} (h : (Lit.int .i64 n).wf = true) : -9223372036854775808 ≤ n ∧ n ≤ 9223372036854775807 := by
  have h1 : IntKind.i64.min = -9223372036854775808 := by decide
  have h2 : IntKind.i64.max = 9223372036854775807 := by decide
  simp only [Lit.wf, h1, h2, Bool.and_eq_true, decide_eq_true_eq] at h
  omega

/-- A reading of a slice of bytes tells a row. -/
theorem row_of_trod {H : Type} {enc : TypeId × Value → H} {W : World} {sp : Nat → Bool} {held : Bool} {n base : Nat} {v : Value} {x : DataW H × List MemPlace} (hf : DataW.trod enc Try.prog W base sp held n 35 [v] = some x) (hw : ∀ n ∈ x.1.weights Try.prog 35, n ≤ reachBytes) :
    ∃ l : List Int, RowAt W v l ∧ Byts l ∧ l.length ≤ 140737488351232 := by
  rcases open_ints Try.underlying35 Try.underlying5 Try.cellsOf5 hf with ⟨hcs, _⟩ | ⟨a, len, cap, zs, hcs, _, hl, hm, hz, hx, hcell, hwz⟩
  · simp at hcs
    subst hcs
    exact ⟨[], .inl ⟨rfl, rfl⟩, Byts.nil, by simp⟩
  · simp at hcs
    subst hcs
    unfold maxLen at hm
    have hlz : len ≤ zs.length := by rw [hz]; split <;> omega
    have hbz : Byts zs := fun c hc => wf_u8 (hwz c hc)
    have hb : len ≤ 140737488351232 := by
      have h1 := hw ((zs.take len).length + (zs.drop len).length) (by
        rw [hx]
        simp only [DataW.weights, Try.underlying35]
        simp [lits, Try.bytesOf5])
      rw [List.length_take, reach_is] at h1
      omega
    by_cases h0 : len = 0
    · subst h0
      exact ⟨[], .inr (.inl ⟨a, cap, rfl, rfl⟩), Byts.nil, by simp⟩
    · have hs : a.spot = none := by
        have := hcell 0 (by omega)
        rw [show a.add 0 = a from rfl] at this
        exact World.cell?_spot this
      obtain ⟨b, off, sp⟩ := a
      obtain rfl : sp = none := hs
      have hlen : (zs.take len).length = len := by rw [List.length_take]; omega
      refine ⟨zs.take len, .inr (.inr ⟨b, off, cap, by rw [hlen], by omega, fun i hi => ?_⟩), hbz.take len, by omega⟩
      rw [hlen] at hi
      have := hcell i (by omega)
      rw [add_none'] at this
      rw [this]
      simp [List.getD, hi]
theorem trod_struct3 {H : Type} {enc : TypeId × Value → H} {P : Program} {w : World} {base : Nat} {spare : Nat → Bool} {held : Bool} {t : TypeId} {f0 f1 f2 : Field} {fuel : Nat} {cs : List Value} {x : DataW H × List MemPlace} (ht : P.underlying t = some (.struct #[f0, f1, f2])) (h : DataW.trod enc P w base spare held fuel t cs = some x) :
    ∃ y0 y1 y2 n, x.1 = .agg [y0.1, y1.1, y2.1] ∧ cs.length = P.cellsOf t ∧ DataW.trod enc P w base spare held n f0.type ((cs.drop f0.offset).take (P.cellsOf f0.type)) = some y0 ∧
      DataW.trod enc P w base spare held n f1.type ((cs.drop f1.offset).take (P.cellsOf f1.type)) = some y1 ∧ DataW.trod enc P w base spare held n f2.type ((cs.drop f2.offset).take (P.cellsOf f2.type)) = some y2 := by
  obtain ⟨xs, n, _, rfl, hl, hlen, hf⟩ := DataW.trod_struct ht h
  match xs, hlen with
  | [y0, y1, y2], _ => exact ⟨y0, y1, y2, n, by simp, hl, by simpa using hf 0 f0 rfl, by simpa using hf 1 f1 rfl, by simpa using hf 2 f2 rfl⟩
theorem wf_u64 {n : Int} (h : (Lit.int .u64 n).wf = true) : 0 ≤ n ∧ n < 18446744073709551616 := by
  have h1 : IntKind.u64.min = 0 := by decide
  have h2 : IntKind.u64.max = 18446744073709551615 := by decide
  simp only [Lit.wf, h1, h2, Bool.and_eq_true, decide_eq_true_eq] at h
  omega
theorem take_one {l : List Value} {i : Nat} {v : Value} (h : (l.drop i).take 1 = [v]) : l[i]? = some v := by
  have h2 : ((l.drop i).take 1)[0]? = some v := by rw [h]; rfl
  rw [List.getElem?_take, if_pos (by omega), List.getElem?_drop] at h2
  simpa using h2
/-- A reading of 32 cells as a hash tells its bytes. -/
theorem hash_of_trod {H : Type} {enc : TypeId × Value → H} {W : World} {sp : Nat → Bool} {held : Bool} {n base : Nat} {l : List Value} {x : DataW H × List MemPlace} (hf : DataW.trod enc Try.prog W base sp held n 27 l = some x) :
    ∃ c : Nat → Int, l = (bytesA 32 c).toList ∧ ∀ i, i < 32 → 0 ≤ c i ∧ c i < 256 := by
  obtain ⟨xs, m, _, _, hl, hx, hel⟩ := DataW.trod_array Try.underlying27 hf
  rw [Try.cellsOf27] at hl
  rw [Try.cellsOf5] at hel
  have each : ∀ i, i < 32 → ∃ z : Int, l[i]? = some (.int .u8 z) ∧ 0 ≤ z ∧ z < 256 := by
    intro i hi
    have h1 := hel i hi
    rw [List.getElem?_eq_getElem (by omega), Nat.mul_one] at h1
    obtain ⟨z, hz, _, hw⟩ := DataW.trod_int Try.underlying5 h1
    have hb := wf_u8 hw
    exact ⟨z, take_one hz, by omega, by omega⟩
  obtain ⟨c, hc⟩ := Go.Deep.choose_lt each
  refine ⟨c, ?_, fun i hi => (hc i hi).2⟩
  apply List.ext_getElem?
  intro i
  by_cases hi : i < 32
  · rw [(hc i hi).1, Array.getElem?_toList, bytesA_get _ _ _ hi]
  · rw [List.getElem?_eq_none (by omega), List.getElem?_eq_none (by rw [Array.length_toList, bytesA_size]; omega)]
/-- A reading of a slice of hashes tells a row. -/
theorem hrow_of_trod {H : Type} {enc : TypeId × Value → H} {W : World} {sp : Nat → Bool} {held : Bool} {n base : Nat} {v : Value} {x : DataW H × List MemPlace} (hf : DataW.trod enc Try.prog W base sp held n 32 [v] = some x) :
    ∃ L : List Hs, HRow W v L ∧ (L = [] ∨ ∃ (D : Nat → DataW H) (rest : List (DataW H)), x.1 = .slice ((List.range L.length).map D) rest) := by
  rcases open_slice Try.underlying32 hf with ⟨hcs, _⟩ | ⟨a, len, cap, m, n, D, Pl, hcs, _, hl, hm, hz, hx, hcell⟩
  · simp at hcs
    subst hcs
    exact ⟨[], .inl ⟨none, 0, rfl, rfl, fun _ => rfl⟩, .inl rfl⟩
  · simp at hcs
    subst hcs
    have hlz : len ≤ m := by rw [hz]; split <;> omega
    by_cases h0 : len = 0
    · subst h0
      exact ⟨[], .inl ⟨some a, cap, rfl, rfl, fun h => by cases h⟩, .inl rfl⟩
    · have each0 : ∀ i, i < len → ∃ c : Nat → Int, (∀ j, j < 32 → 0 ≤ c j ∧ c j < 256) ∧ ∀ j, j < 32 → W.cell? ((a.add (i * 32)).add j) = some (.int .u8 (c j)) := by
        intro i hi
        obtain ⟨cs', h1, h2⟩ := hcell i (by omega)
        rw [Try.cellsOf27] at h1
        obtain ⟨_, hlen, hce⟩ := World.cells?_some h1
        obtain ⟨c, hcs, hc⟩ := hash_of_trod h2
        refine ⟨c, hc, fun j hj => ?_⟩
        rw [hce j hj, hcs, Array.getElem?_toList, bytesA_get 32 c j hj]
      have hs : a.spot = none := by
        obtain ⟨c, _, h3⟩ := each0 0 (by omega)
        have h4 := h3 0 (by omega)
        rw [Nat.zero_mul, show (a.add 0).add 0 = a from rfl] at h4
        exact World.cell?_spot h4
      obtain ⟨b, off, sp⟩ := a
      obtain rfl : sp = none := hs
      have each : ∀ i, i < len → ∃ y : Hs, W.rangeAt b (off + i * 32) (encH y) := by
        intro i hi
        obtain ⟨c, hc, h3⟩ := each0 i hi
        refine ⟨Hs.mk' c hc, fun j v hv => ?_⟩
        have hj : j < 32 := by have := (List.getElem?_eq_some_iff.1 hv).1; rwa [encH_len] at this
        rw [encH_get _ _ hj, Hs.mk'_f _ _ _ hj] at hv
        have h4 := h3 j hj
        rw [Addr.add_mid, Addr.add_mid] at h4
        rw [h4]; exact hv
      obtain ⟨y, hy⟩ := Go.Deep.choose_lt each
      refine ⟨(List.range len).map y, .inr ⟨b, off, cap, by simp, by simpa using hl, rangeAt_of_elems fun i hi => ?_⟩, .inr ⟨D, (List.range (m - len)).map fun j => D (len + j), ?_⟩⟩
      · have hi' : i < len := by simpa using hi
        simpa using hy i hi'
      · rw [hx]; simp
/-- A hash that is handed in. -/
theorem hs_of_trod {H : Type} {enc : TypeId × Value → H} {W : World} {sp : Nat → Bool} {held : Bool} {n base : Nat} {l : List Value} {x : DataW H × List MemPlace} (hf : DataW.trod enc Try.prog W base sp held n 27 l = some x) : ∃ y : Hs, l = (bytesA 32 y.f).toList := by
  obtain ⟨c, hl, hc⟩ := hash_of_trod hf
  have h := (mkH_arr c hc).trans (encH_arr (Hs.mk' c hc))
  generalize Hs.mk' c hc = y at h
  exact ⟨y, by rw [hl, h]⟩
/-- A slice of hashes that is handed in. -/
theorem hrows_of_trod {H : Type} {enc : TypeId × Value → H} {W : World} {sp : Nat → Bool} {held : Bool} {n base : Nat} {v : Value} {x : DataW H × List MemPlace} (hf : DataW.trod enc Try.prog W base sp held n 32 [v] = some x) (hw : ∀ n ∈ x.1.weights Try.prog 32, n ≤ reachBytes) :
    ∃ L : List Hs, HRow W v L ∧ L.length ≤ 4398046510976 := by
  obtain ⟨L, h1, h2⟩ := hrow_of_trod hf
  refine ⟨L, h1, ?_⟩
  rcases h2 with rfl | ⟨D, rest, hx⟩
  · simp
  · have h3 := hw ((((List.range L.length).map D).length + rest.length) * 32) (by
      rw [hx]
      simp only [DataW.weights, Try.underlying32]
      simp [Try.bytesOf27])
    rw [reach_is] at h3
    simp only [List.length_map, List.length_range] at h3
    omega
set_option maxRecDepth 8000 in
/-- The block of a slice that is handed in is there. -/
theorem wide_lt {W : World} {r : Reach} {base : Nat} {t e : TypeId} (hu : Try.prog.underlying t = some (.slice e)) {a : Option Addr} {n c : Nat} (h : Value.okWide Try.prog W r base t (.slice a n c)) : ∀ k, (Value.slice a n c).ownBlock = some k → k < W.heap.size := by
  intro k hk
  cases a with
  | none => simp [Value.ownBlock] at hk
  | some ad =>
    simp [Value.ownBlock] at hk
    subst hk
    unfold Value.okWide at h
    simp only [hu] at h
    unfold Cell.okWide at h
    simp only [hu] at h
    unfold Cell.ok at h
    simp only [hu] at h
    obtain ⟨_, _, _, _, row, cells, hs, _⟩ := h
    apply Nat.lt_of_not_le
    intro hle
    simp [World.shape?, Array.getElem?_eq_none hle] at hs
theorem Try.cellsOf34 : Try.prog.cellsOf 34 = 34 := by kernel_rfl
/-- An Ask that is handed in. -/
theorem ask_of_trod {H : Type} {enc : TypeId × Value → H} {W : World} {sp : Nat → Bool} {held : Bool} {n base : Nat} {cs : List Value} {x : DataW H × List MemPlace} (hf : DataW.trod enc Try.prog W base sp held n 34 cs = some x) (hw : ∀ n ∈ x.1.weights Try.prog 34, n ≤ reachBytes) :
    ∃ (s : Int) (v : Value) (L : List Hs) (y : Hs), cs = .int .u64 s :: v :: encH y ∧ (0 ≤ s ∧ s < 18446744073709551616) ∧ HRow W v L ∧ L.length ≤ 4398046510976 := by
  obtain ⟨y0, y1, y2, k, hx, hl, h0, h1, h2⟩ := trod_struct3 Try.underlying34 hf
  rw [Try.cellsOf34] at hl
  match cs, hl with
  | a :: b :: c, hl =>
  have hc : c.length = 32 := by simpa using hl
  simp only [Try.cellsOf25, Try.cellsOf32, Try.cellsOf27, List.drop_zero, List.take_succ_cons, List.take_zero, List.drop_succ_cons] at h0 h1 h2
  rw [List.take_of_length_le (by omega)] at h2
  obtain ⟨n0, e0, w0⟩ := DataW.trod_int Try.underlying25 h0
  obtain ⟨L, r1, r2⟩ := hrows_of_trod h1 (fun n hn => hw n (by
    rw [hx]
    simp only [DataW.weights, Try.underlying34]
    exact DataW.weights_mem_each (j := 1) (t := 32) rfl rfl n hn))
  obtain ⟨y, hy⟩ := hs_of_trod h2
  simp at e0
  exact ⟨n0, b, L, y, by rw [e0, hy, encH], wf_u64 w0.2, r1, r2⟩
end Go.Proofs.Ytfheinghkigocaa
