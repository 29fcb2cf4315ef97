import Derived.Test.YtpakaladpdoejaaDoorShaRefA
namespace Go.Proofs.YtpakaladpdoejaaDoor
open Go.RowKit

/-- The eight words of a round, as a row. -/
def r8F (r : R8) (i : Nat) : Int := [r.a, r.b, r.c, r.d, r.e, r.f, r.g, r.h].getD i 0
/-- The first t sums behind a piece. -/
def addUp (s v : Nat → Int) : Nat → (Nat → Int)
  | 0 => s
  | t + 1 => upd (addUp s v t) t ((addUp s v t t + v t) % 4294967296)

theorem wordsA_congr {n : Nat} {f g : Nat → Int} (h : ∀ i, i < n → f i = g i) : wordsA n f = wordsA n g := by
  unfold wordsA; congr 1; funext i; rw [h i.val i.isLt]
theorem addUp_out (s : Nat → Int) (r : R8) : wordsA 8 (addUp s (r8F r) 8) = wordsA 8 (outF s r) := by
  apply wordsA_congr
  intro i hi
  match i, hi with
  | 0, _ => rfl
  | 1, _ => rfl
  | 2, _ => rfl
  | 3, _ => rfl
  | 4, _ => rfl
  | 5, _ => rfl
  | 6, _ => rfl
  | 7, _ => rfl

set_option maxRecDepth 8000 in
set_option maxHeartbeats 2000000 in
theorem piece_any (s b : Nat → Int) (h off cap : Nat) (w : World) (hx : ∀ i, i < 64 → w.cell? ⟨h, off + i, none⟩ = some (.int .u8 (b i))) :
    Calls Tryd.prog 37 #[.agg (wordsA 8 s), .slice (some ⟨h, off, none⟩) 64 cap, .agg (wordsA 64 roundsF)] w fun e w' => e = .returned (.agg (wordsA 8 (mixF s b))) ∧ Below w.heap.size w w' := by
  have hhlt := cell_lt (hx 0 (by omega))
  have hB0 : Below w.heap.size w (((w.alloc (.cells (wordsA 8 s) 73)).alloc (.cells (wordsA 64 roundsF) 75)).alloc (.cells (wordsA 8 fun _ => 0) 73)) :=
    (((Below.refl _ _).alloc (Nat.le_refl _) _).alloc (by simp) _).alloc (by simp; omega) _
  have hS := ((Blk.new w 73 (wordsA 8 s)).alloc (.cells (wordsA 64 roundsF) 75)).alloc (.cells (wordsA 8 fun _ => 0) 73)
  have hK := (Blk.new (w.alloc (.cells (wordsA 8 s) 73)) 75 (wordsA 64 roundsF)).alloc (.cells (wordsA 8 fun _ => 0) 73)
  have hR := Blk.new ((w.alloc (.cells (wordsA 8 s) 73)).alloc (.cells (wordsA 64 roundsF) 75)) 73 (wordsA 8 fun _ => 0)
  simp only [World.size_alloc] at hK hR
  have HX : Keep (∀ i, i < 64 → (((w.alloc (.cells (wordsA 8 s) 73)).alloc (.cells (wordsA 64 roundsF) 75)).alloc (.cells (wordsA 8 fun _ => 0) 73)).cell? ⟨h, off + i, none⟩ = some (.int .u8 (b i))) :=
    ⟨fun i hi => by rw [hB0.cell (p := ⟨h, off + i, none⟩) hhlt]; exact hx i hi⟩
  clear hx
  go_enter Tryd.func37, Tryd.ntmps37
  go_wp2_with (first | (refine wpList_boxA rfl 73 (.tmp 0) rfl (wordsA 8 s) rfl ?_; refine wpList_boxA rfl 75 (.tmp 2) rfl (wordsA 64 roundsF) rfl ?_; refine wpList_new rfl 73 rfl _ Tryd.new73 ?_; simp only [Act.put, List.setIfInBounds_toArray, List.set_cons_succ, List.set_cons_zero, World.size_alloc]))
  generalize (((w.alloc (.cells (wordsA 8 s) 73)).alloc (.cells (wordsA 64 roundsF) 75)).alloc (.cells (wordsA 8 fun _ => 0) 73)) = w0 at *
  refine (words_any b h off cap w0 HX.out).mono ?_
  rintro e w1 ⟨rfl, hB1⟩
  have hsz0 : w.heap.size + 3 ≤ w0.heap.size := by have := hR.lt; omega
  have hS1 := hS.below hB1 hS.lt
  have hK1 := hK.below hB1 hK.lt
  have hR1 := hR.below hB1 hR.lt
  have hB1' := hB0.trans (hB1.mono hB0.size)
  have hsz1 := hB1.size
  obtain ⟨c, hc⟩ : ∃ c, Keep (c = sched b 64) := ⟨_, ⟨rfl⟩⟩
  rw [← hc.out]
  clear hS hK hR hB0 hB1 HX hhlt
  have hW2 : Blk (w1.alloc (.cells (wordsA 64 c) 75)) w1.heap.size 75 (wordsA 64 c) := Blk.new _ _ _
  have HZ : Keep (Blk (w1.alloc (.cells (wordsA 64 fun _ => 0) 75)) w1.heap.size 75 (wordsA 64 fun _ => 0)) := ⟨Blk.new _ _ _⟩
  have HS2 : Keep (Blk (w1.alloc (.cells (wordsA 64 c) 75)) w.heap.size 73 (wordsA 8 s)) := ⟨hS1.alloc _⟩
  have HZ2 : Keep (Blk ((w1.alloc (.cells (wordsA 64 c) 75)).alloc (.cells (wordsA 8 fun _ => 0) 73)) (w1.heap.size + 1) 73 (wordsA 8 fun _ => 0)) := ⟨by
    have h := Blk.new (w1.alloc (.cells (wordsA 64 c) 75)) 73 (wordsA 8 fun _ => 0)
    simp only [World.size_alloc] at h; exact h⟩
  have hV3 := HZ2.out.setRow (wordsA 8 s)
  have hS3 := (HS2.out.alloc (.cells (wordsA 8 fun _ => 0) 73)).setRow_ne (b' := w1.heap.size + 1) (by have := hS1.lt; omega) (wordsA 8 s)
  have hK3 := ((hK1.alloc (.cells (wordsA 64 c) 75)).alloc (.cells (wordsA 8 fun _ => 0) 73)).setRow_ne (b' := w1.heap.size + 1) (by have := hK1.lt; omega) (wordsA 8 s)
  have hR3 := ((hR1.alloc (.cells (wordsA 64 c) 75)).alloc (.cells (wordsA 8 fun _ => 0) 73)).setRow_ne (b' := w1.heap.size + 1) (by have := hR1.lt; omega) (wordsA 8 s)
  have hW3 := (hW2.alloc (.cells (wordsA 8 fun _ => 0) 73)).setRow_ne (b' := w1.heap.size + 1) (by omega) (wordsA 8 s)
  have hB3 : Below w.heap.size w (((w1.alloc (.cells (wordsA 64 c) 75)).alloc (.cells (wordsA 8 fun _ => 0) 73)).setRow (w1.heap.size + 1) (wordsA 8 s)) :=
    below_setRow ((hB1'.alloc (by omega) _).alloc (by simp; omega) _) (by omega) _
  clear hS1 hK1 hR1 hB1' hW2
  go_wp2_with (first | (refine wpList_new rfl 75 rfl _ Tryd.new75 ?_; refine wpList_store_row rfl 75 (.tmp 7) (.tmp 16) rfl w1.heap.size (wordsA 64 c) rfl rfl 75 (wordsA 64 fun _ => 0) HZ.out (Tryd.size75W _) (wordsA_sizes _ _ _) (wordsA_one _ _) ?_; rw [World.setRow_alloc_new]) | (refine wpList_load_row rfl 73 (.tmp 3) rfl w.heap.size rfl 73 (wordsA 8 s) (0, 0) (.array 8 72) HS2.out Tryd.underlying73 rfl (Tryd.size73W _) ?_; refine wpList_new rfl 73 rfl _ Tryd.new73 ?_; refine wpList_store_row rfl 73 (.tmp 8) (.tmp 17) rfl (w1.heap.size + 1) (wordsA 8 s) (by simp [Act.put, Act.eval]) rfl 73 (wordsA 8 fun _ => 0) HZ2.out (Tryd.size73W _) (wordsA_sizes _ _ _) (wordsA_one _ _) ?_; simp only [Act.put, List.setIfInBounds_toArray, List.set_cons_succ, List.set_cons_zero, World.size_alloc]))
  generalize (((w1.alloc (.cells (wordsA 64 c) 75)).alloc (.cells (wordsA 8 fun _ => 0) 73)).setRow (w1.heap.size + 1) (wordsA 8 s)) = w3 at *
  go_loopw [9] (fun i wr => ∃ t : Nat, t ≤ 64 ∧ i = .int .i64 t ∧ Blk wr (w1.heap.size + 1) 73 (wordsA 8 (r8F (runF roundsF c (r8 s) t))) ∧ Blk wr w.heap.size 73 (wordsA 8 s) ∧ Blk wr (w.heap.size + 1) 75 (wordsA 64 roundsF) ∧ Blk wr (w.heap.size + 1 + 1) 73 (wordsA 8 fun _ => 0) ∧ Blk wr w1.heap.size 75 (wordsA 64 c) ∧ Below w.heap.size w wr) (fun i _ => 64 - (intOf i).toNat)
  case atStart => exact ⟨0, by omega, rfl, hV3, hS3, hK3, hR3, hW3, hB3⟩
  case round =>
    clear hV3 hS3 hK3 hR3 hW3 hB3 HZ HS2 HZ2
    obtain ⟨t, ht, rfl, hV, hS, hK, hR, hW, hB⟩ := hrel
    obtain ⟨r, hr⟩ : ∃ r, Keep (r = runF roundsF c (r8 s) t) := ⟨_, ⟨rfl⟩⟩
    rw [← hr.out] at hV
    obtain ⟨ra, rb, rc, rd, re, rf, rg, rh⟩ := r
    by_cases hlt : t < 64
    · have hlt' : (t : Int) < 64 := by omega
      have eg : wr.cell? ⟨w.heap.size + 1, t, none⟩ = some (.int .u32 (roundsF t)) := by rw [hK.cell, wordsA_get _ _ _ (by omega)]
      have ek : wr.cell? ⟨w1.heap.size, t, none⟩ = some (.int .u32 (c t)) := by rw [hW.cell, wordsA_get _ _ _ (by omega)]
      have v0 : wr.cell? ⟨w1.heap.size + 1, 0, none⟩ = some (.int .u32 ra) := by rw [hV.cell, wordsA_get _ _ _ (by omega)]; rfl
      have v1 : wr.cell? ⟨w1.heap.size + 1, 1, none⟩ = some (.int .u32 rb) := by rw [hV.cell, wordsA_get _ _ _ (by omega)]; rfl
      have v2 : wr.cell? ⟨w1.heap.size + 1, 2, none⟩ = some (.int .u32 rc) := by rw [hV.cell, wordsA_get _ _ _ (by omega)]; rfl
      have v3 : wr.cell? ⟨w1.heap.size + 1, 3, none⟩ = some (.int .u32 rd) := by rw [hV.cell, wordsA_get _ _ _ (by omega)]; rfl
      have v4 : wr.cell? ⟨w1.heap.size + 1, 4, none⟩ = some (.int .u32 re) := by rw [hV.cell, wordsA_get _ _ _ (by omega)]; rfl
      have v5 : wr.cell? ⟨w1.heap.size + 1, 5, none⟩ = some (.int .u32 rf) := by rw [hV.cell, wordsA_get _ _ _ (by omega)]; rfl
      have v6 : wr.cell? ⟨w1.heap.size + 1, 6, none⟩ = some (.int .u32 rg) := by rw [hV.cell, wordsA_get _ _ _ (by omega)]; rfl
      have v7 : wr.cell? ⟨w1.heap.size + 1, 7, none⟩ = some (.int .u32 rh) := by rw [hV.cell, wordsA_get _ _ _ (by omega)]; rfl
      obtain ⟨kt, hkt⟩ : ∃ kt, Keep (kt = roundsF t) := ⟨_, ⟨rfl⟩⟩
      obtain ⟨wt, hwt⟩ : ∃ wt, Keep (wt = c t) := ⟨_, ⟨rfl⟩⟩
      rw [← hkt.out] at eg
      rw [← hwt.out] at ek
      go_wp2
      go_quiet (fail)
      have v0a : (wr.drewN nq).cell? ⟨w1.heap.size + 1, 0, none⟩ = some (.int .u32 ra) := v0
      have v1a : (wr.drewN nq).cell? ⟨w1.heap.size + 1, 1, none⟩ = some (.int .u32 rb) := v1
      have v2a : (wr.drewN nq).cell? ⟨w1.heap.size + 1, 2, none⟩ = some (.int .u32 rc) := v2
      have v3a : (wr.drewN nq).cell? ⟨w1.heap.size + 1, 3, none⟩ = some (.int .u32 rd) := v3
      have v4a : (wr.drewN nq).cell? ⟨w1.heap.size + 1, 4, none⟩ = some (.int .u32 re) := v4
      have v5a : (wr.drewN nq).cell? ⟨w1.heap.size + 1, 5, none⟩ = some (.int .u32 rf) := v5
      have v6a : (wr.drewN nq).cell? ⟨w1.heap.size + 1, 6, none⟩ = some (.int .u32 rg) := v6
      have v7a : (wr.drewN nq).cell? ⟨w1.heap.size + 1, 7, none⟩ = some (.int .u32 rh) := v7
      have ega : (wr.drewN nq).cell? ⟨w.heap.size + 1, t, none⟩ = some (.int .u32 kt) := eg
      have eka : (wr.drewN nq).cell? ⟨w1.heap.size, t, none⟩ = some (.int .u32 wt) := ek
      have hVa := blk_drewN hV nq
      have hSa := blk_drewN hS nq
      have hKa := blk_drewN hK nq
      have hRa := blk_drewN hR nq
      have hWa := blk_drewN hW nq
      have hBa := below_drewN hB nq
      clear v0 v1 v2 v3 v4 v5 v6 v7 eg ek hV hS hK hR hW hB
      generalize wr.drewN nq = wa at *
      clear nq
      go_wp2
      go_quiet ((go_at_call 46; exact Calls.quiet_of (turned_any _ _ _ (by omega) (by omega))))
      have v0b : (wa.drewN nq).cell? ⟨w1.heap.size + 1, 0, none⟩ = some (.int .u32 ra) := v0a
      have v1b : (wa.drewN nq).cell? ⟨w1.heap.size + 1, 1, none⟩ = some (.int .u32 rb) := v1a
      have v2b : (wa.drewN nq).cell? ⟨w1.heap.size + 1, 2, none⟩ = some (.int .u32 rc) := v2a
      have v3b : (wa.drewN nq).cell? ⟨w1.heap.size + 1, 3, none⟩ = some (.int .u32 rd) := v3a
      have v4b : (wa.drewN nq).cell? ⟨w1.heap.size + 1, 4, none⟩ = some (.int .u32 re) := v4a
      have v5b : (wa.drewN nq).cell? ⟨w1.heap.size + 1, 5, none⟩ = some (.int .u32 rf) := v5a
      have v6b : (wa.drewN nq).cell? ⟨w1.heap.size + 1, 6, none⟩ = some (.int .u32 rg) := v6a
      have v7b : (wa.drewN nq).cell? ⟨w1.heap.size + 1, 7, none⟩ = some (.int .u32 rh) := v7a
      have egb : (wa.drewN nq).cell? ⟨w.heap.size + 1, t, none⟩ = some (.int .u32 kt) := ega
      have ekb : (wa.drewN nq).cell? ⟨w1.heap.size, t, none⟩ = some (.int .u32 wt) := eka
      have hVb := blk_drewN hVa nq
      have hSb := blk_drewN hSa nq
      have hKb := blk_drewN hKa nq
      have hRb := blk_drewN hRa nq
      have hWb := blk_drewN hWa nq
      have hBb := below_drewN hBa nq
      clear v0a v1a v2a v3a v4a v5a v6a v7a ega eka hVa hSa hKa hRa hWa hBa
      generalize wa.drewN nq = wb at *
      clear nq
      go_wp2
      go_quiet ((go_at_call 46; exact Calls.quiet_of (turned_any _ _ _ (by omega) (by omega))))
      have v0c : (wb.drewN nq).cell? ⟨w1.heap.size + 1, 0, none⟩ = some (.int .u32 ra) := v0b
      have v1c : (wb.drewN nq).cell? ⟨w1.heap.size + 1, 1, none⟩ = some (.int .u32 rb) := v1b
      have v2c : (wb.drewN nq).cell? ⟨w1.heap.size + 1, 2, none⟩ = some (.int .u32 rc) := v2b
      have v3c : (wb.drewN nq).cell? ⟨w1.heap.size + 1, 3, none⟩ = some (.int .u32 rd) := v3b
      have v4c : (wb.drewN nq).cell? ⟨w1.heap.size + 1, 4, none⟩ = some (.int .u32 re) := v4b
      have v5c : (wb.drewN nq).cell? ⟨w1.heap.size + 1, 5, none⟩ = some (.int .u32 rf) := v5b
      have v6c : (wb.drewN nq).cell? ⟨w1.heap.size + 1, 6, none⟩ = some (.int .u32 rg) := v6b
      have v7c : (wb.drewN nq).cell? ⟨w1.heap.size + 1, 7, none⟩ = some (.int .u32 rh) := v7b
      have egc : (wb.drewN nq).cell? ⟨w.heap.size + 1, t, none⟩ = some (.int .u32 kt) := egb
      have ekc : (wb.drewN nq).cell? ⟨w1.heap.size, t, none⟩ = some (.int .u32 wt) := ekb
      have hVc := blk_drewN hVb nq
      have hSc := blk_drewN hSb nq
      have hKc := blk_drewN hKb nq
      have hRc := blk_drewN hRb nq
      have hWc := blk_drewN hWb nq
      have hBc := below_drewN hBb nq
      clear v0b v1b v2b v3b v4b v5b v6b v7b egb ekb hVb hSb hKb hRb hWb hBb
      generalize wb.drewN nq = wc at *
      clear nq
      go_wp2_with (refine wpList_bld rfl 73 _ rfl (wordsA 8 (r8F (stepF kt wt ⟨ra, rb, rc, rd, re, rf, rg, rh⟩))) (by kernel_rfl) ?_; refine wpList_store_row rfl 73 (.tmp 8) (.tmp 99) rfl (w1.heap.size + 1) (wordsA 8 (r8F (stepF kt wt ⟨ra, rb, rc, rd, re, rf, rg, rh⟩))) rfl rfl 73 (wordsA 8 (r8F ⟨ra, rb, rc, rd, re, rf, rg, rh⟩)) hVc (Tryd.size73W _) (wordsA_sizes _ _ _) (wordsA_one _ _) ?_)
      go_roundw
      case rel =>
        have hn : runF roundsF c (r8 s) (t + 1) = stepF kt wt ⟨ra, rb, rc, rd, re, rf, rg, rh⟩ := by rw [hkt.out, hwt.out, hr.out]; rfl
        have ne0 : w.heap.size ≠ w1.heap.size + 1 := by omega
        have ne1 : w.heap.size + 1 ≠ w1.heap.size + 1 := by omega
        have ne2 : w.heap.size + 1 + 1 ≠ w1.heap.size + 1 := by omega
        exact ⟨t + 1, by omega, by go_num, by rw [hn]; exact hVc.setRow _, hSc.setRow_ne ne0 _, hKc.setRow_ne ne1 _, hRc.setRow_ne ne2 _, hWc.setRow_ne (by omega) _, below_setRow hBc (by omega) _⟩
      case measure => simp [intOf]; omega
    · obtain rfl : t = 64 := by omega
      clear hlt ht hK hW
      have hfin : Keep (mixF s b = outF s ⟨ra, rb, rc, rd, re, rf, rg, rh⟩) := ⟨by unfold mixF; rw [← hc.out, ← hr.out]⟩
      obtain ⟨v, hv⟩ : ∃ v, Keep (v = r8F ⟨ra, rb, rc, rd, re, rf, rg, rh⟩) := ⟨_, ⟨rfl⟩⟩
      rw [← hv.out] at hV
      go_wp2
      go_loopw [14] (fun i wr => ∃ t : Nat, t ≤ 8 ∧ i = .int .i64 t ∧ Blk wr (w1.heap.size + 1) 73 (wordsA 8 v) ∧ Blk wr w.heap.size 73 (wordsA 8 (addUp s v t)) ∧ Blk wr (w.heap.size + 1 + 1) 73 (wordsA 8 fun _ => 0) ∧ Below w.heap.size w wr) (fun i _ => 8 - (intOf i).toNat)
      case atStart => exact ⟨0, by omega, rfl, hV, hS, hR, hB⟩
      case round =>
        clear hV hS hR hB
        obtain ⟨t, ht, rfl, hV, hS, hR, hB⟩ := hrel
        by_cases hlt : t < 8
        · have hlt' : (t : Int) < 8 := by omega
          have c1 : wr.cell? ⟨w.heap.size, t, none⟩ = some (.int .u32 (addUp s v t t)) := by rw [hS.cell, wordsA_get _ _ _ (by omega)]
          have c2 : wr.cell? ⟨w1.heap.size + 1, t, none⟩ = some (.int .u32 (v t)) := by rw [hV.cell, wordsA_get _ _ _ (by omega)]
          have c3 : wr.frozen? ⟨w.heap.size, t, none⟩ = false := hS.frozen t
          go_wp2
          go_region
          go_wp2
          go_roundw
          case rel =>
            have h := hS.set t (.int .u32 ((addUp s v t t + v t) % 4294967296))
            rw [wordsA_set] at h
            exact ⟨t + 1, by omega, by go_num, (hV.set_ne (by omega) _).drew, h.drew, (hR.set_ne (by omega) _).drew, (hB.setCell (Nat.le_refl _) _).drew⟩
          case measure => simp [intOf]; omega
        · obtain rfl : t = 8 := by omega
          clear hlt ht
          obtain ⟨d, hd⟩ : ∃ d, Keep (d = addUp s v 8) := ⟨_, ⟨rfl⟩⟩
          rw [← hd.out] at hS
          go_wp2_with (refine wpList_load_row rfl 73 (.tmp 3) rfl w.heap.size rfl 73 (wordsA 8 d) (0, 0) (.array 8 72) hS Tryd.underlying73 rfl (Tryd.size73W _) ?_; refine wpList_store_row rfl 73 (.tmp 6) (.tmp 112) rfl (w.heap.size + 1 + 1) (wordsA 8 d) rfl rfl 73 (wordsA 8 fun _ => 0) hR (Tryd.size73W _) (wordsA_sizes _ _ _) (wordsA_one _ _) ?_)
          exact bodyPost_ret (v := .agg (wordsA 8 d)) (results_cell_row Tryd.results37 _ _ (w.heap.size + 1 + 1) 73 _ (0, 0) _ rfl (hR.setRow _) Tryd.underlying73 rfl (Tryd.size73W _)) rfl ⟨by rw [hfin.out, hd.out, hv.out, addUp_out], below_setRow hB (by omega) _⟩
end Go.Proofs.YtpakaladpdoejaaDoor
