import Derived.Test.YtpakaladpdoejaaDoorShaRefD
namespace Go.Proofs.YtpakaladpdoejaaDoor
open Go.RowKit

/-- What comes behind n bytes, as numbers. -/
def endZ (n : Nat) : List Int := (List.range (zerosF n + 9)).map (endX n)
theorem endZ_len (n : Nat) : (endZ n).length = zerosF n + 9 := by simp [endZ]
theorem endL_len (n j : Nat) : (endL n j).length = zerosF n + 1 + j := by simp [endL]; omega
theorem endL_Z (n : Nat) : endL n 8 = bv (endZ n) := by
  apply List.ext_getElem?
  intro i
  by_cases h : i < zerosF n + 9
  · rw [endL_get n i h, bv_get _ _ (by rw [endZ_len]; exact h)]
    simp [endZ, h, List.getD]
  · rw [List.getElem?_eq_none (by rw [endL_len]; omega), List.getElem?_eq_none (by rw [bv_len, endZ_len]; omega)]
/-- The bytes with what comes behind them. -/
def padI (l : List Int) : List Int := l ++ endZ l.length
/-- How many pieces they make. -/
def piecesN (n : Nat) : Nat := (n + zerosF n + 9) / 64
theorem pad_len (l : List Int) : (padI l).length = 64 * piecesN l.length := by
  simp only [padI, List.length_append, endZ_len, piecesN]
  unfold zerosF; omega
/-- The words behind m pieces. -/
def refUp (L : List Int) : Nat → (Nat → Int)
  | 0 => beginF
  | m + 1 => mixF (refUp L m) fun j => L.getD (64 * m + j) 0
def layR (s : Nat → Int) : Nat → (Nat → Int)
  | 0 => fun _ => 0
  | i + 1 => upd (layR s i) i (s (i / 4) / 2 ^ (24 - 8 * (i % 4)) % 256)

set_option maxRecDepth 8000 in
set_option maxHeartbeats 2000000 in
theorem refOf_any (v : Value) (l : List Int) (w : World) (hrow : RowAt w v l) (hl : l.length ≤ 140737488355000) :
    Calls Tryd.prog 22 #[v] w fun e w' => e = .returned (.agg (bytesA 32 (layR (refUp (padI l) (piecesN l.length)) 32))) ∧ Below w.heap.size w w' := by
  have hbA := below_new w (.cells (bytesA 32 fun _ => 0) 40)
  have HRow : Keep (RowAt (w.alloc (.cells (bytesA 32 fun _ => 0) 40)) v l) := ⟨hrow.below hbA⟩
  have hRA := Blk.new w 40 (bytesA 32 fun _ => 0)
  have hsA : (w.alloc (.cells (bytesA 32 fun _ => 0) 40)).heap.size = w.heap.size + 1 := by simp
  clear hrow
  go_enter Tryd.func22, Tryd.ntmps22
  go_wp2_with (first | (refine wpList_new rfl 40 rfl _ Tryd.new40 ?_))
  generalize w.alloc (.cells (bytesA 32 fun _ => 0) 40) = wA at *
  refine (padded_any v l wA HRow.out hl).mono ?_
  rintro e w1 ⟨pv, rfl, hown, hB1⟩
  rw [endL_Z] at hown
  have hL0 : bv l ++ bv (endZ l.length) = bv (padI l) := by simp [bv, padI]
  rw [hL0] at hown
  clear hL0
  have hpl := pad_len l
  obtain ⟨M, hM⟩ : ∃ M, Keep (M = piecesN l.length) := ⟨_, ⟨rfl⟩⟩
  have hlen2 : l.length + zerosF l.length + 9 = 64 * M := by rw [hM.out, ← hpl]; simp only [padI, List.length_append, endZ_len]; omega
  rw [hlen2] at hown
  rw [← hM.out] at hpl
  obtain ⟨L, hLL⟩ : ∃ L, Keep (L = padI l) := ⟨_, ⟨rfl⟩⟩
  rw [← hLL.out] at hown hpl
  have hM1 : 0 < M := by omega
  have hM2 : 64 * M ≤ 140737488355000 + 80 := by rw [← hlen2]; unfold zerosF; omega
  clear hlen2
  obtain ⟨nn, hnn⟩ : ∃ nn, Keep (nn = 64 * M) := ⟨_, ⟨rfl⟩⟩
  rw [← hnn.out] at hown hpl hM2
  have hn1 : 0 < nn := by rw [hnn.out]; omega
  obtain ⟨g, cap, rfl, hg, hcap⟩ := owns_form hown (by omega)
  have HC : Keep (∀ i, i < nn → w1.cell? ⟨g, i, none⟩ = some (.int .u8 (L.getD i 0))) := ⟨fun i hi => by
    rw [hown.cellAt i (by omega), bv_get L i (by omega)]⟩
  have hglt : g < w1.heap.size := cell_lt (HC.out 0 (by omega))
  clear hown
  go_wp2_with fail
  refine (beginr_any _).mono ?_
  rintro e w2 ⟨rfl, rfl⟩
  have HZ : Keep (Blk ((w1.alloc (.cells (wordsA 8 beginF) 73)).alloc (.cells (wordsA 8 fun _ => 0) 73)) (w1.heap.size + 1) 73 (wordsA 8 fun _ => 0)) := ⟨by
    have h := Blk.new (w1.alloc (.cells (wordsA 8 beginF) 73)) 73 (wordsA 8 fun _ => 0)
    simp only [World.size_alloc] at h; exact h⟩
  have h4 := HZ.out.setRow (wordsA 8 beginF)
  have hB2 : Below w1.heap.size w1 (((w1.alloc (.cells (wordsA 8 beginF) 73)).alloc (.cells (wordsA 8 fun _ => 0) 73)).setRow (w1.heap.size + 1) (wordsA 8 beginF)) := below_setRow (((Below.refl _ _).alloc (Nat.le_refl _) _).alloc (by simp) _) (by omega) _
  go_wp2_with (refine wpList_new rfl 73 rfl _ Tryd.new73 ?_; refine wpList_store_row rfl 73 (.tmp 4) (.tmp 11) rfl (w1.heap.size + 1) (wordsA 8 beginF) (by simp [Act.put, Act.eval]) rfl 73 (wordsA 8 fun _ => 0) HZ.out (Tryd.size73W _) (wordsA_sizes _ _ _) (wordsA_one _ _) ?_; simp only [Act.put, List.setIfInBounds_toArray, List.set_cons_succ, List.set_cons_zero, World.size_alloc])
  generalize (((w1.alloc (.cells (wordsA 8 beginF) 73)).alloc (.cells (wordsA 8 fun _ => 0) 73)).setRow (w1.heap.size + 1) (wordsA 8 beginF)) = w2 at *
  clear HZ
  refine (roundsr_any _).mono ?_
  rintro e w3 ⟨rfl, rfl⟩
  have hsz2 := h4.lt
  have HZ : Keep (Blk ((w2.alloc (.cells (wordsA 64 roundsF) 75)).alloc (.cells (wordsA 64 fun _ => 0) 75)) (w2.heap.size + 1) 75 (wordsA 64 fun _ => 0)) := ⟨by
    have h := Blk.new (w2.alloc (.cells (wordsA 64 roundsF) 75)) 75 (wordsA 64 fun _ => 0)
    simp only [World.size_alloc] at h; exact h⟩
  have h5 := HZ.out.setRow (wordsA 64 roundsF)
  have hB3 : Below w2.heap.size w2 (((w2.alloc (.cells (wordsA 64 roundsF) 75)).alloc (.cells (wordsA 64 fun _ => 0) 75)).setRow (w2.heap.size + 1) (wordsA 64 roundsF)) := below_setRow (((Below.refl _ _).alloc (Nat.le_refl _) _).alloc (by simp) _) (by omega) _
  go_wp2_with (refine wpList_new rfl 75 rfl _ Tryd.new75 ?_; refine wpList_store_row rfl 75 (.tmp 5) (.tmp 12) rfl (w2.heap.size + 1) (wordsA 64 roundsF) (by simp [Act.put, Act.eval]) rfl 75 (wordsA 64 fun _ => 0) HZ.out (Tryd.size75W _) (wordsA_sizes _ _ _) (wordsA_one _ _) ?_; simp only [Act.put, List.setIfInBounds_toArray, List.set_cons_succ, List.set_cons_zero, World.size_alloc])
  generalize (((w2.alloc (.cells (wordsA 64 roundsF) 75)).alloc (.cells (wordsA 64 fun _ => 0) 75)).setRow (w2.heap.size + 1) (wordsA 64 roundsF)) = w3 at *
  clear HZ
  have hR3 : Blk w3 w.heap.size 40 (bytesA 32 fun _ => 0) := ((hRA.below hB1 (by omega)).below hB2 (by have := hB1.size; omega)).below hB3 (by have := hB1.size; omega)
  have h43 := h4.below hB3 h4.lt
  have HC3 : Keep (∀ i, i < nn → w3.cell? ⟨g, i, none⟩ = some (.int .u8 (L.getD i 0))) := ⟨fun i hi => by
    rw [hB3.cell (p := ⟨g, i, none⟩) (by show g < _; have := hB2.size; omega), hB2.cell (p := ⟨g, i, none⟩) hglt]; exact HC.out i hi⟩
  have hBw : Below w.heap.size w w3 := (hbA.trans (hB1.mono (by omega))).trans ((hB2.mono (by have := hB1.size; omega)).trans (hB3.mono (by have := hB1.size; omega)))
  have hs1 := hB1.size
  have hs2 := hB2.size
  clear hRA h4 HC hB1 hB2 hB3 hbA HRow
  go_loopw [6] (fun i wr => ∃ m a : Nat, Keep (a = 64 * m) ∧ m ≤ M ∧ i = .int .i64 (a : Int) ∧ Blk wr (w1.heap.size + 1) 73 (wordsA 8 (refUp L m)) ∧ Blk wr (w2.heap.size + 1) 75 (wordsA 64 roundsF) ∧ Keep (∀ i, i < nn → wr.cell? ⟨g, i, none⟩ = some (.int .u8 (L.getD i 0))) ∧ Blk wr w.heap.size 40 (bytesA 32 fun _ => 0) ∧ Below w.heap.size w wr) (fun i _ => nn - (intOf i).toNat)
  case atStart => exact ⟨0, 0, ⟨rfl⟩, by omega, rfl, h43, h5, HC3, hR3, hBw⟩
  case round =>
    clear h43 h5 HC3 hR3 hBw
    obtain ⟨m, a, ha, hm, rfl, h4, h5, HC, hR, hB⟩ := hrel
    by_cases hlt : m < M
    · have ha1 : a + 64 ≤ nn := by rw [ha.out, hnn.out]; omega
      have ha2 : (a : Int) < (nn : Int) := by omega
      have HX : Keep (∀ i, i < 64 → wr.cell? ⟨g, a + i, none⟩ = some (.int .u8 ((fun j => L.getD (64 * m + j) 0) i))) := ⟨fun i hi => by rw [HC.out _ (by omega), ha.out]⟩
      go_wp2
      refine ro_region _ (w1.heap.size + 1) (w2.heap.size + 1) g nn cap a wr (refUp L m) (fun j => L.getD (64 * m + j) 0) _ (by simp) rfl rfl rfl rfl ha1 hcap (by omega) (by omega) (by omega) h4 h5 HX.out _ ?_
      intro wc hgr h4'
      rw [putsTo_ro]
      simp only [Act.put, List.setIfInBounds_toArray, List.set_cons_succ, List.set_cons_zero]
      have h5' : Blk wc (w2.heap.size + 1) 75 (wordsA 64 roundsF) := by unfold Blk; rw [hgr.block _ h5.lt (by simp; omega)]; exact h5
      have hR' : Blk wc w.heap.size 40 (bytesA 32 fun _ => 0) := by unfold Blk; rw [hgr.block _ hR.lt (by simp; omega)]; exact hR
      have HC' : Keep (∀ i, i < nn → wc.cell? ⟨g, i, none⟩ = some (.int .u8 (L.getD i 0))) := ⟨fun i hi => grownBy_cell hgr (by omega) (HC.out i hi)⟩
      have hB' : Below w.heap.size w wc := hB.grown hgr hB.size (fun k e => by injection e with e; omega)
      have hn' : Keep (refUp L (m + 1) = mixF (refUp L m) (fun j => L.getD (64 * m + j) 0)) := ⟨rfl⟩
      go_wp2
      go_roundw
      case rel => exact ⟨m + 1, a + 64, ⟨by rw [ha.out]; omega⟩, by omega, by go_num, by rw [hn'.out]; exact h4', h5', HC', hR', hB'⟩
      case measure => simp [intOf]; omega
    · obtain rfl : m = M := by omega
      have hae : a = nn := by rw [ha.out, hnn.out]
      have ha3 : ¬ ((a : Int) < (nn : Int)) := by omega
      obtain ⟨S, hS⟩ : ∃ S, Keep (S = refUp L m) := ⟨_, ⟨rfl⟩⟩
      rw [← hS.out] at h4
      clear ha HC h5 hae
      have HZ : Keep (Blk (wr.alloc (.cells (bytesA 32 fun _ => 0) 40)) wr.heap.size 40 (bytesA 32 fun _ => 0)) := ⟨Blk.new _ _ _⟩
      have h7 := Blk.new wr 40 (bytesA 32 fun _ => 0)
      have h47 := h4.alloc (.cells (bytesA 32 fun _ => 0) 40)
      have hR7 := hR.alloc (.cells (bytesA 32 fun _ => 0) 40)
      have hB7 := hB.alloc hB.size (.cells (bytesA 32 fun _ => 0) 40)
      have hl4 := h4.lt
      have hlR := hR.lt
      go_wp2_with (refine wpList_bld rfl 40 _ rfl (bytesA 32 fun _ => 0) (by kernel_rfl) ?_; refine wpList_new rfl 40 rfl _ Tryd.new40 ?_; refine wpList_store_row rfl 40 (.tmp 7) (.tmp 27) rfl wr.heap.size (bytesA 32 fun _ => 0) rfl rfl 40 (bytesA 32 fun _ => 0) HZ.out (Tryd.size40B _) (bytesA_sizes _ _ _) (bytesA_one _ _) ?_; rw [World.setRow_alloc_new])
      clear h4 hR HZ
      generalize wr.alloc (.cells (bytesA 32 fun _ => 0) 40) = w7 at *
      have hsB := hB.size
      clear hB
      generalize wr.heap.size = b7 at *
      clear wr
      go_loopw [8] (fun i wx => ∃ t : Nat, t ≤ 32 ∧ i = .int .i64 (t : Int) ∧ Blk wx (w1.heap.size + 1) 73 (wordsA 8 S) ∧ Blk wx b7 40 (bytesA 32 (layR S t)) ∧ Blk wx w.heap.size 40 (bytesA 32 fun _ => 0) ∧ Below w.heap.size w wx) (fun i _ => 32 - (intOf i).toNat)
      case atStart => exact ⟨0, by omega, rfl, h47, h7, hR7, hB7⟩
      case round =>
        clear h47 h7 hR7 hB7
        obtain ⟨t, ht, rfl, h4, h7, hR, hB⟩ := hrel
        by_cases hlt : t < 32
        · have hlt' : (t : Int) < 32 := by omega
          have c1 : wr.cell? ⟨w1.heap.size + 1, t / 4, none⟩ = some (.int .u32 (S (t / 4))) := by rw [h4.cell, wordsA_get _ _ _ (by omega)]
          have c2 : wr.cell? ⟨b7, t, none⟩ = some (.int .u8 (layR S t t)) := by rw [h7.cell, bytesA_get _ _ _ (by omega)]
          have c3 : wr.frozen? ⟨b7, t, none⟩ = false := h7.frozen t
          have e1 : (24 - 8 * ((t : Int) % 4)).toNat = 24 - 8 * (t % 4) := by omega
          have e2 : 0 ≤ 24 - 8 * ((t : Int) % 4) := by omega
          have e3 : 24 - 8 * ((t : Int) % 4) ≤ 32 := by omega
          have e4 : ((t : Int) / 4) < 8 := by omega
          have e5 : 0 ≤ ((t : Int) / 4) := by omega
          have e6 : ((t : Int) / 4).toNat = t / 4 := by omega
          go_wp2
          go_roundw
          case rel =>
            have h := h7.set t (.int .u8 (S (t / 4) / 2 ^ (24 - 8 * (t % 4)) % 256))
            rw [bytesA_set] at h
            exact ⟨t + 1, by omega, by go_num, h4.set_ne (by omega) _, h, hR.set_ne (by omega) _, hB.setCell (by show w.heap.size ≤ b7; omega) _⟩
          case measure => simp [intOf]; omega
        · obtain rfl : t = 32 := by omega
          clear hlt ht
          obtain ⟨c, hc⟩ : ∃ c, Keep (c = layR S 32) := ⟨_, ⟨rfl⟩⟩
          rw [← hc.out] at h7
          go_wp2_with (refine wpList_load_row rfl 40 (.tmp 7) rfl b7 rfl 40 (bytesA 32 c) (0, 0) (.array 32 5) h7 Tryd.underlying40 rfl (Tryd.size40B _) ?_; refine wpList_store_row rfl 40 (.tmp 2) (.tmp 44) rfl w.heap.size (bytesA 32 c) rfl rfl 40 (bytesA 32 fun _ => 0) hR (Tryd.size40B _) (bytesA_sizes _ _ _) (bytesA_one _ _) ?_)
          exact bodyPost_ret (v := .agg (bytesA 32 c)) (results_cell_row Tryd.results22 _ _ w.heap.size 40 _ (0, 0) _ rfl (hR.setRow _) Tryd.underlying40 rfl (Tryd.size40B _)) rfl ⟨by rw [hc.out, hS.out, hLL.out, hM.out], below_setRow hB (Nat.le_refl _) _⟩
end Go.Proofs.YtpakaladpdoejaaDoor
