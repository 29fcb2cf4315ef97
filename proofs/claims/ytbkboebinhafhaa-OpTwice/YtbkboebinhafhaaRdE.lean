import Derived.Test.YtbkboebinhafhaaRdD
namespace Go.Proofs.Ytbkboebinhafhaa
open Go.RowKit

set_option maxRecDepth 8000 in
set_option maxHeartbeats 4000000 in
theorem xbytes_good (x : Nat) (vB : Value) (l : List Int) (a : Nat) (w : World) (h : RfAt w x vB a 0 0) (hR : ∀ wx, (Grown w wx fun k => k = x) → RowAt wx vB l) (ha : a ≤ l.length) (hb : l.length ≤ 140737488355328) (hby : Byts l) (D : List Int) (hD : D = l.drop a) (most : Int) (mm : Nat) (hmm : (mm : Int) = max most 0) (hm2 : mm ≤ 9223372036854775807) (W : Int) (hW : W = (byt D (mm : Int)).1) (N : Nat) (hN : N = (byt D (mm : Int)).2.1) (L : List Int) (hL : L = (byt D (mm : Int)).2.2) :
    Calls Try.prog 81 #[ptr x, .int .i64 most] w (RfPostB x vB W (a + N) L w) := by
  have HS := Keep.mk (RS.start h)
  have HR := Keep.mk hR
  have Hb := Keep.mk hb
  have HD := Keep.mk hD
  have hsh := fstM_shape D (mm : Int)
  have hle := fstM_le D (mm : Int) (by rw [hD]; exact fun c hc => hby c (List.mem_of_mem_drop hc))
  have hby2 := byt_eq D (mm : Int)
  have hDl : D.length = l.length - a := by rw [hD, List.length_drop]
  obtain ⟨X, N1, W1, hM⟩ : ∃ X N1 W1, fstM D (mm : Int) = (X, ((N1 : Nat) : Int), W1) := ⟨(fstM D (mm : Int)).1, (fstM D (mm : Int)).2.1.toNat, (fstM D (mm : Int)).2.2, by rw [Int.toNat_of_nonneg hsh.2.1]⟩
  have hC := fun (w1 : World) (hs : RS w x vB a 0 0 w1) => xnum_good x vB l a mm w1 hs.rf (fun wx hg => hR wx (hs.gr.trans hg)) ha hb hby D hD W1 X N1 hM
  rw [hM] at hsh hle hby2
  simp only [Int.toNat_natCast] at hsh hle hby2
  rw [hby2] at hW hN hL
  have HZ : Keep (W1 = 0 → 0 ≤ X ∧ X ≤ 9223372036854775807 ∧ W = nextW (D.drop N1) X ∧ N = N1 + nextN (D.drop N1) X ∧ L = (D.drop N1).take (nextN (D.drop N1) X) ∧ a + N1 ≤ l.length) := ⟨fun h0 => by
    rw [if_pos h0] at hW hN hL
    have := hle h0
    exact ⟨this.1, by omega, hW, hN, hL, by omega⟩⟩
  have HF : Keep (W1 ≠ 0 → W = W1 ∧ N = 0 ∧ L = [] ∧ N1 = 0) := ⟨fun h0 => by
    rw [if_neg h0] at hW hN hL
    exact ⟨hW, hN, hL, by have := (hsh.1 h0).2; omega⟩⟩
  have Hmm := Keep.mk hmm
  have Hm2 := Keep.mk hm2
  clear h hR ha hb hby hD hsh hle hby2 hDl hM hW hN hL hmm hm2
  by_cases hneg : most < 0
  · have HC : Keep (∀ w1, RS w x vB a 0 0 w1 → Calls Try.prog 48 #[ptr x, .int .u64 0] w1 (RfPost x vB W1 (a + N1) (.int .u64 X) w1)) := ⟨fun w1 hs => by
      have := hC w1 hs
      rw [show (mm : Int) = 0 by have := Hmm.out; omega] at this
      exact this⟩
    clear hC
    go_enter Try.func81, Try.ntmps81
    go_wp2_with (first | (refine wpList_new rfl 49 rfl _ Try.new49 ?_; refine Hid.out ?_))
    refine hid_in ?_
    generalize w.alloc (.cells #[.int .i64 0, .int .i64 0] 49) = w1 at *
    go_wp2_with fail
    refine (HC.out w1 HS.out).mono ?_
    rintro e w2 ⟨b, hE, rfl, hr, hg⟩
    have HS2 := Keep.mk (HS.out.turned hr hg)
    clear hr hg HS HC
    rcases hE with ⟨hW, rfl⟩ | ⟨hW, rfl⟩
    · subst hW
      obtain ⟨hX0, hXm, hWe, hNe, hLe, hN1⟩ := HZ.out rfl
      have hXw : IntKind.i64.wrap X = X := by rw [IntKind.wrap_i64]; omega
      have HNe := Keep.mk hNe
      have HXr := Keep.mk (And.intro hX0 hXm)
      have HRaw : Keep (∀ w4, RS w x vB (a + N1) 0 0 w4 → Calls Try.prog 24 #[ptr x, .int .i64 X] w4 (RfPostB x vB W (a + N) L w4)) := ⟨fun w4 hs => by
        have := xraw_good x vB l (a + N1) X w4 hs.rf (fun wx hg => HR.out wx (hs.gr.trans hg)) hN1 Hb.out (D.drop N1) (by rw [HD.out, List.drop_drop]) W hWe (nextN (D.drop N1) X) rfl
        rw [Nat.add_assoc, ← hNe, ← hLe] at this
        exact this⟩
      clear hX0 hXm hWe hNe hLe hN1 HZ HF
      go_wp2_with (first | (refine wpList_new rfl 49 rfl _ Try.new49 ?_; refine Hid.out ?_))
      refine hid_in ?_
      have HN := Keep.mk (Blk.new w2 49 #[.int .i64 0, .int .i64 0])
      have HA := Keep.mk (below_new w2 (.cells #[.int .i64 0, .int .i64 0] 49))
      generalize w2.alloc (.cells #[.int .i64 0, .int .i64 0] 49) = w3 at *
      have n0 : w3.cell? ⟨w2.heap.size, 0, none⟩ = some (.int .i64 0) := by rw [HN.out.cell]; rfl
      have n1 : w3.cell? ⟨w2.heap.size, 1, none⟩ = some (.int .i64 0) := by rw [HN.out.cell]; rfl
      have m0 := HN.out.frozen 0
      have m1 := HN.out.frozen 1
      go_wp2_with fail
      have HN4 := Keep.mk (show Blk ((w3.setCell ⟨w2.heap.size, 0, none⟩ (.int .i64 0)).setCell ⟨w2.heap.size, 1, none⟩ (.int .i64 0)) w2.heap.size 49 #[.int .i64 0, .int .i64 0] from (HN.out.set 0 _).set 1 _)
      have HB4 := Keep.mk (below_two HA.out (Nat.le_refl _) (.int .i64 0) (.int .i64 0))
      clear n0 n1 m0 m1 HN HA
      generalize (w3.setCell ⟨w2.heap.size, 0, none⟩ (.int .i64 0)).setCell ⟨w2.heap.size, 1, none⟩ (.int .i64 0) = w4 at *
      have HS4 := Keep.mk (HS2.out.later HB4.out)
      have n0 : w4.cell? ⟨w2.heap.size, 0, none⟩ = some (.int .i64 0) := by rw [HN4.out.cell]; rfl
      have n1 : w4.cell? ⟨w2.heap.size, 1, none⟩ = some (.int .i64 0) := by rw [HN4.out.cell]; rfl
      have d0 := HS4.out.d0
      have d1 := HS4.out.d1
      have e0 := HS4.out.cell.frozen 0
      have e1 := HS4.out.cell.frozen 1
      clear HB4 HN4 HS2 n0 n1 d0 d1 e0 e1
      go_wp2_with fail
      refine (HRaw.out w4 HS4.out).mono ?_
      rintro e w5 ⟨b, res, hE, rfl, hr, hg, hrow, hok⟩
      have hls : w.heap.size < w4.heap.size := HS4.out.cell.lt
      have HS5 := Keep.mk (HS4.out.turned hr hg)
      have HRo := Keep.mk (row_two (g := w.heap.size) hrow (fun e => by have := hok _ e; omega) (.int .i64 W) (.int .i64 b))
      have HOk : Keep (∀ k, res.ownBlock = some k → w.heap.size ≤ k) := ⟨fun k hk => by have := hok k hk; omega⟩
      have HE := Keep.mk hE
      clear hr hg hrow hok hE hls HS4 HRaw
      have d0 := HS5.out.d0
      have d1 := HS5.out.d1
      have e0 := HS5.out.cell.frozen 0
      have e1 := HS5.out.cell.frozen 1
      go_wp2
      have hf := HS5.out.fin (.int .i64 W) (.int .i64 b)
      exact bodyPost_ret (results_tmp_cell_row Try.results81 _ _ w.heap.size 49 _ (0, 0) _ _ rfl rfl hf.1 Try.underlying49 rfl Try.size49) rfl ⟨_, _, HE.out, rfl, hf.2.1, hf.2.2, HRo.out, HOk.out⟩
    · obtain ⟨rfl, rfl, rfl, rfl⟩ := HF.out hW
      have Hw0 := Keep.mk hW
      have hy1 : (W == 0) = false := by simpa using hW
      clear HZ HF hW
      simp only [Nat.add_zero] at HS2 ⊢
      go_wp2_with (first | (refine wpList_new rfl 49 rfl _ Try.new49 ?_; refine Hid.out ?_))
      refine hid_in ?_
      have HN := Keep.mk (Blk.new w2 49 #[.int .i64 0, .int .i64 0])
      have HA := Keep.mk (below_new w2 (.cells #[.int .i64 0, .int .i64 0] 49))
      generalize w2.alloc (.cells #[.int .i64 0, .int .i64 0] 49) = w3 at *
      have n0 : w3.cell? ⟨w2.heap.size, 0, none⟩ = some (.int .i64 0) := by rw [HN.out.cell]; rfl
      have n1 : w3.cell? ⟨w2.heap.size, 1, none⟩ = some (.int .i64 0) := by rw [HN.out.cell]; rfl
      have m0 := HN.out.frozen 0
      have m1 := HN.out.frozen 1
      go_wp2_with fail
      have HN4 := Keep.mk (show Blk ((w3.setCell ⟨w2.heap.size, 0, none⟩ (.int .i64 W)).setCell ⟨w2.heap.size, 1, none⟩ (.int .i64 (a : Int))) w2.heap.size 49 #[.int .i64 W, .int .i64 (a : Int)] from (HN.out.set 0 _).set 1 _)
      have HB4 := Keep.mk (below_two HA.out (Nat.le_refl _) (.int .i64 W) (.int .i64 (a : Int)))
      clear n0 n1 m0 m1 HN HA
      generalize (w3.setCell ⟨w2.heap.size, 0, none⟩ (.int .i64 W)).setCell ⟨w2.heap.size, 1, none⟩ (.int .i64 (a : Int)) = w4 at *
      have HS4 := Keep.mk (HS2.out.later HB4.out)
      have n0 : w4.cell? ⟨w2.heap.size, 0, none⟩ = some (.int .i64 W) := by rw [HN4.out.cell]; rfl
      have n1 : w4.cell? ⟨w2.heap.size, 1, none⟩ = some (.int .i64 (a : Int)) := by rw [HN4.out.cell]; rfl
      have d0 := HS4.out.d0
      have d1 := HS4.out.d1
      have e0 := HS4.out.cell.frozen 0
      have e1 := HS4.out.cell.frozen 1
      clear HB4 HN4 HS2
      go_region
      go_wp2
      have hf := HS4.out.fin (.int .i64 W) (.int .i64 (a : Int))
      exact bodyPost_ret (results_tmp_cell_row Try.results81 _ _ w.heap.size 49 _ (0, 0) _ _ rfl rfl hf.1.drew Try.underlying49 rfl Try.size49) rfl ⟨_, _, .inr ⟨Hw0.out, rfl⟩, rfl, (Blk.drew hf.2.1), hf.2.2.drew, .inl ⟨rfl, rfl⟩, fun k hk => by simp [Value.ownBlock] at hk⟩
  · have HC : Keep (∀ w1, RS w x vB a 0 0 w1 → Calls Try.prog 48 #[ptr x, .int .u64 most] w1 (RfPost x vB W1 (a + N1) (.int .u64 X) w1)) := ⟨fun w1 hs => by
      have := hC w1 hs
      rw [show (mm : Int) = most by have := Hmm.out; omega] at this
      exact this⟩
    have hwm : IntKind.u64.wrap most = most := by rw [IntKind.wrap_u64]; have := Hmm.out; have := Hm2.out; omega
    clear hC
    go_enter Try.func81, Try.ntmps81
    go_wp2_with (first | (refine wpList_new rfl 49 rfl _ Try.new49 ?_; refine Hid.out ?_))
    refine hid_in ?_
    generalize w.alloc (.cells #[.int .i64 0, .int .i64 0] 49) = w1 at *
    go_wp2_with fail
    refine (HC.out w1 HS.out).mono ?_
    rintro e w2 ⟨b, hE, rfl, hr, hg⟩
    have HS2 := Keep.mk (HS.out.turned hr hg)
    clear hr hg HS HC
    rcases hE with ⟨hW, rfl⟩ | ⟨hW, rfl⟩
    · subst hW
      obtain ⟨hX0, hXm, hWe, hNe, hLe, hN1⟩ := HZ.out rfl
      have hXw : IntKind.i64.wrap X = X := by rw [IntKind.wrap_i64]; omega
      have HNe := Keep.mk hNe
      have HXr := Keep.mk (And.intro hX0 hXm)
      have HRaw : Keep (∀ w4, RS w x vB (a + N1) 0 0 w4 → Calls Try.prog 24 #[ptr x, .int .i64 X] w4 (RfPostB x vB W (a + N) L w4)) := ⟨fun w4 hs => by
        have := xraw_good x vB l (a + N1) X w4 hs.rf (fun wx hg => HR.out wx (hs.gr.trans hg)) hN1 Hb.out (D.drop N1) (by rw [HD.out, List.drop_drop]) W hWe (nextN (D.drop N1) X) rfl
        rw [Nat.add_assoc, ← hNe, ← hLe] at this
        exact this⟩
      clear hX0 hXm hWe hNe hLe hN1 HZ HF
      go_wp2_with (first | (refine wpList_new rfl 49 rfl _ Try.new49 ?_; refine Hid.out ?_))
      refine hid_in ?_
      have HN := Keep.mk (Blk.new w2 49 #[.int .i64 0, .int .i64 0])
      have HA := Keep.mk (below_new w2 (.cells #[.int .i64 0, .int .i64 0] 49))
      generalize w2.alloc (.cells #[.int .i64 0, .int .i64 0] 49) = w3 at *
      have n0 : w3.cell? ⟨w2.heap.size, 0, none⟩ = some (.int .i64 0) := by rw [HN.out.cell]; rfl
      have n1 : w3.cell? ⟨w2.heap.size, 1, none⟩ = some (.int .i64 0) := by rw [HN.out.cell]; rfl
      have m0 := HN.out.frozen 0
      have m1 := HN.out.frozen 1
      go_wp2_with fail
      have HN4 := Keep.mk (show Blk ((w3.setCell ⟨w2.heap.size, 0, none⟩ (.int .i64 0)).setCell ⟨w2.heap.size, 1, none⟩ (.int .i64 0)) w2.heap.size 49 #[.int .i64 0, .int .i64 0] from (HN.out.set 0 _).set 1 _)
      have HB4 := Keep.mk (below_two HA.out (Nat.le_refl _) (.int .i64 0) (.int .i64 0))
      clear n0 n1 m0 m1 HN HA
      generalize (w3.setCell ⟨w2.heap.size, 0, none⟩ (.int .i64 0)).setCell ⟨w2.heap.size, 1, none⟩ (.int .i64 0) = w4 at *
      have HS4 := Keep.mk (HS2.out.later HB4.out)
      have n0 : w4.cell? ⟨w2.heap.size, 0, none⟩ = some (.int .i64 0) := by rw [HN4.out.cell]; rfl
      have n1 : w4.cell? ⟨w2.heap.size, 1, none⟩ = some (.int .i64 0) := by rw [HN4.out.cell]; rfl
      have d0 := HS4.out.d0
      have d1 := HS4.out.d1
      have e0 := HS4.out.cell.frozen 0
      have e1 := HS4.out.cell.frozen 1
      clear HB4 HN4 HS2 n0 n1 d0 d1 e0 e1
      go_wp2_with fail
      refine (HRaw.out w4 HS4.out).mono ?_
      rintro e w5 ⟨b, res, hE, rfl, hr, hg, hrow, hok⟩
      have hls : w.heap.size < w4.heap.size := HS4.out.cell.lt
      have HS5 := Keep.mk (HS4.out.turned hr hg)
      have HRo := Keep.mk (row_two (g := w.heap.size) hrow (fun e => by have := hok _ e; omega) (.int .i64 W) (.int .i64 b))
      have HOk : Keep (∀ k, res.ownBlock = some k → w.heap.size ≤ k) := ⟨fun k hk => by have := hok k hk; omega⟩
      have HE := Keep.mk hE
      clear hr hg hrow hok hE hls HS4 HRaw
      have d0 := HS5.out.d0
      have d1 := HS5.out.d1
      have e0 := HS5.out.cell.frozen 0
      have e1 := HS5.out.cell.frozen 1
      go_wp2
      have hf := HS5.out.fin (.int .i64 W) (.int .i64 b)
      exact bodyPost_ret (results_tmp_cell_row Try.results81 _ _ w.heap.size 49 _ (0, 0) _ _ rfl rfl hf.1 Try.underlying49 rfl Try.size49) rfl ⟨_, _, HE.out, rfl, hf.2.1, hf.2.2, HRo.out, HOk.out⟩
    · obtain ⟨rfl, rfl, rfl, rfl⟩ := HF.out hW
      have Hw0 := Keep.mk hW
      have hy1 : (W == 0) = false := by simpa using hW
      clear HZ HF hW
      simp only [Nat.add_zero] at HS2 ⊢
      go_wp2_with (first | (refine wpList_new rfl 49 rfl _ Try.new49 ?_; refine Hid.out ?_))
      refine hid_in ?_
      have HN := Keep.mk (Blk.new w2 49 #[.int .i64 0, .int .i64 0])
      have HA := Keep.mk (below_new w2 (.cells #[.int .i64 0, .int .i64 0] 49))
      generalize w2.alloc (.cells #[.int .i64 0, .int .i64 0] 49) = w3 at *
      have n0 : w3.cell? ⟨w2.heap.size, 0, none⟩ = some (.int .i64 0) := by rw [HN.out.cell]; rfl
      have n1 : w3.cell? ⟨w2.heap.size, 1, none⟩ = some (.int .i64 0) := by rw [HN.out.cell]; rfl
      have m0 := HN.out.frozen 0
      have m1 := HN.out.frozen 1
      go_wp2_with fail
      have HN4 := Keep.mk (show Blk ((w3.setCell ⟨w2.heap.size, 0, none⟩ (.int .i64 W)).setCell ⟨w2.heap.size, 1, none⟩ (.int .i64 (a : Int))) w2.heap.size 49 #[.int .i64 W, .int .i64 (a : Int)] from (HN.out.set 0 _).set 1 _)
      have HB4 := Keep.mk (below_two HA.out (Nat.le_refl _) (.int .i64 W) (.int .i64 (a : Int)))
      clear n0 n1 m0 m1 HN HA
      generalize (w3.setCell ⟨w2.heap.size, 0, none⟩ (.int .i64 W)).setCell ⟨w2.heap.size, 1, none⟩ (.int .i64 (a : Int)) = w4 at *
      have HS4 := Keep.mk (HS2.out.later HB4.out)
      have n0 : w4.cell? ⟨w2.heap.size, 0, none⟩ = some (.int .i64 W) := by rw [HN4.out.cell]; rfl
      have n1 : w4.cell? ⟨w2.heap.size, 1, none⟩ = some (.int .i64 (a : Int)) := by rw [HN4.out.cell]; rfl
      have d0 := HS4.out.d0
      have d1 := HS4.out.d1
      have e0 := HS4.out.cell.frozen 0
      have e1 := HS4.out.cell.frozen 1
      clear HB4 HN4 HS2
      go_region
      go_wp2
      have hf := HS4.out.fin (.int .i64 W) (.int .i64 (a : Int))
      exact bodyPost_ret (results_tmp_cell_row Try.results81 _ _ w.heap.size 49 _ (0, 0) _ _ rfl rfl hf.1.drew Try.underlying49 rfl Try.size49) rfl ⟨_, _, .inr ⟨Hw0.out, rfl⟩, rfl, (Blk.drew hf.2.1), hf.2.2.drew, .inl ⟨rfl, rfl⟩, fun k hk => by simp [Value.ownBlock] at hk⟩

set_option maxRecDepth 8000 in
set_option maxHeartbeats 4000000 in
theorem xtext_good (x : Nat) (vB : Value) (l : List Int) (a : Nat) (w : World) (h : RfAt w x vB a 0 0) (hR : ∀ wx, (Grown w wx fun k => k = x) → RowAt wx vB l) (ha : a ≤ l.length) (hb : l.length ≤ 140737488355328) (hby : Byts l) (D : List Int) (hD : D = l.drop a) (most : Int) (mm : Nat) (hmm : (mm : Int) = max most 0) (hm2 : mm ≤ 9223372036854775807) (W : Int) (hW : W = (byt D (mm : Int)).1) (N : Nat) (hN : N = (byt D (mm : Int)).2.1) (L : List Int) (hL : L = (byt D (mm : Int)).2.2) (st : ByteArray) (hst : st = strOfNums L) :
    Calls Try.prog 62 #[ptr x, .int .i64 most] w (RfPost x vB W (a + N) (.string st) w) := by
  have HS := Keep.mk (RS.start h)
  have HC : Keep (∀ w1, RS w x vB a 0 0 w1 → Calls Try.prog 81 #[ptr x, .int .i64 most] w1 (RfPostB x vB W (a + N) L w1)) := ⟨fun w1 hs => xbytes_good x vB l a w1 hs.rf (fun wx hg => hR wx (hs.gr.trans hg)) ha hb hby D hD most mm hmm hm2 W hW N hN L hL⟩
  have Hst := Keep.mk hst
  clear h hR ha hb hby hD hmm hm2 hW hN hL hst
  go_enter Try.func62, Try.ntmps62
  go_wp2_with (first | (refine wpList_new rfl 49 rfl _ Try.new49 ?_; refine Hid.out ?_))
  refine hid_in ?_
  generalize w.alloc (.cells #[.int .i64 0, .int .i64 0] 49) = w1 at *
  go_wp2_with fail
  refine (HC.out w1 HS.out).mono ?_
  rintro e w2 ⟨b, res, hE, rfl, hr, hg, hrow, hok⟩
  have HS2 := Keep.mk (HS.out.turned hr hg)
  have HRo := Keep.mk hrow
  have HE := Keep.mk hE
  clear hr hg HS HC hE hrow hok
  go_wp2_with (first | (refine wpList_new rfl 49 rfl _ Try.new49 ?_; refine Hid.out ?_))
  refine hid_in ?_
  have HN := Keep.mk (Blk.new w2 49 #[.int .i64 0, .int .i64 0])
  have HA := Keep.mk (below_new w2 (.cells #[.int .i64 0, .int .i64 0] 49))
  generalize w2.alloc (.cells #[.int .i64 0, .int .i64 0] 49) = w3 at *
  have n0 : w3.cell? ⟨w2.heap.size, 0, none⟩ = some (.int .i64 0) := by rw [HN.out.cell]; rfl
  have n1 : w3.cell? ⟨w2.heap.size, 1, none⟩ = some (.int .i64 0) := by rw [HN.out.cell]; rfl
  have m0 := HN.out.frozen 0
  have m1 := HN.out.frozen 1
  go_wp2_with fail
  have HN4 := Keep.mk (show Blk ((w3.setCell ⟨w2.heap.size, 0, none⟩ (.int .i64 W)).setCell ⟨w2.heap.size, 1, none⟩ (.int .i64 b)) w2.heap.size 49 #[.int .i64 W, .int .i64 b] from (HN.out.set 0 _).set 1 _)
  have HB4 := Keep.mk (below_two HA.out (Nat.le_refl _) (.int .i64 W) (.int .i64 b))
  clear n0 n1 m0 m1 HN HA
  generalize (w3.setCell ⟨w2.heap.size, 0, none⟩ (.int .i64 W)).setCell ⟨w2.heap.size, 1, none⟩ (.int .i64 b) = w4 at *
  have HS4 := Keep.mk (HS2.out.later HB4.out)
  have n0 : w4.cell? ⟨w2.heap.size, 0, none⟩ = some (.int .i64 W) := by rw [HN4.out.cell]; rfl
  have n1 : w4.cell? ⟨w2.heap.size, 1, none⟩ = some (.int .i64 b) := by rw [HN4.out.cell]; rfl
  have d0 := HS4.out.d0
  have d1 := HS4.out.d1
  have e0 := HS4.out.cell.frozen 0
  have e1 := HS4.out.cell.frozen 1
  have hcv : (convert 36 9 res).run Try.prog w4.drew = .ok (.string st) w4.drew := by rw [Hst.out]; exact conv_row _ _ _ (HRo.out.below HB4.out.drew)
  clear HB4 HN4 HS2
  go_region
  go_wp2
  have hf := HS4.out.fin (.int .i64 W) (.int .i64 b)
  exact bodyPost_ret (results_tmp_cell_row Try.results62 _ _ w.heap.size 49 _ (0, 0) _ _ rfl rfl hf.1.drew Try.underlying49 rfl Try.size49) rfl ⟨_, HE.out, rfl, (Blk.drew hf.2.1), hf.2.2.drew⟩

set_option maxRecDepth 8000 in
set_option maxHeartbeats 4000000 in
theorem xtext_bad (x : Nat) (vB : Value) (a : Nat) (why b most : Int) (w : World) (h : RfAt w x vB a why b) (hw : why ≠ 0) (hm1 : -9223372036854775808 ≤ most) (hm2 : most ≤ 9223372036854775807) :
    Calls Try.prog 62 #[ptr x, .int .i64 most] w (RfStuck why b (.string ByteArray.empty) w) := by
  have HS := Keep.mk (RS.start h)
  have HB := Keep.mk (below_new w (.cells #[.int .i64 0, .int .i64 0] 49))
  have HC : Keep (∀ w1, RS w x vB a why b w1 → Calls Try.prog 81 #[ptr x, .int .i64 most] w1 (RfStuck why b (.slice none 0 0) w1)) := ⟨fun w1 hs => xbytes_bad x vB a why b most w1 hs.rf hw hm1 hm2⟩
  clear h hw hm1 hm2
  go_enter Try.func62, Try.ntmps62
  go_wp2_with (first | (refine wpList_new rfl 49 rfl _ Try.new49 ?_; refine Hid.out ?_))
  refine hid_in ?_
  generalize w.alloc (.cells #[.int .i64 0, .int .i64 0] 49) = w1 at *
  go_wp2_with fail
  refine (HC.out w1 HS.out).mono ?_
  rintro e w2 ⟨rfl, hb2⟩
  have HS2 := Keep.mk (HS.out.later hb2)
  have HB2 := Keep.mk (HB.out.trans (hb2.mono HB.out.size))
  clear hb2 HS HB HC
  go_wp2_with (first | (refine wpList_new rfl 49 rfl _ Try.new49 ?_; refine Hid.out ?_))
  refine hid_in ?_
  have HN := Keep.mk (Blk.new w2 49 #[.int .i64 0, .int .i64 0])
  have HA := Keep.mk (below_new w2 (.cells #[.int .i64 0, .int .i64 0] 49))
  generalize w2.alloc (.cells #[.int .i64 0, .int .i64 0] 49) = w3 at *
  have n0 : w3.cell? ⟨w2.heap.size, 0, none⟩ = some (.int .i64 0) := by rw [HN.out.cell]; rfl
  have n1 : w3.cell? ⟨w2.heap.size, 1, none⟩ = some (.int .i64 0) := by rw [HN.out.cell]; rfl
  have m0 := HN.out.frozen 0
  have m1 := HN.out.frozen 1
  go_wp2_with fail
  have HN4 := Keep.mk (show Blk ((w3.setCell ⟨w2.heap.size, 0, none⟩ (.int .i64 why)).setCell ⟨w2.heap.size, 1, none⟩ (.int .i64 b)) w2.heap.size 49 #[.int .i64 why, .int .i64 b] from (HN.out.set 0 _).set 1 _)
  have HB4 := Keep.mk (below_two HA.out (Nat.le_refl _) (.int .i64 why) (.int .i64 b))
  clear n0 n1 m0 m1 HN HA
  generalize (w3.setCell ⟨w2.heap.size, 0, none⟩ (.int .i64 why)).setCell ⟨w2.heap.size, 1, none⟩ (.int .i64 b) = w4 at *
  have HS4 := Keep.mk (HS2.out.later HB4.out)
  have HB5 := Keep.mk (HB2.out.trans (HB4.out.mono HB2.out.size))
  have n0 : w4.cell? ⟨w2.heap.size, 0, none⟩ = some (.int .i64 why) := by rw [HN4.out.cell]; rfl
  have n1 : w4.cell? ⟨w2.heap.size, 1, none⟩ = some (.int .i64 b) := by rw [HN4.out.cell]; rfl
  have d0 := HS4.out.d0
  have d1 := HS4.out.d1
  have e0 := HS4.out.cell.frozen 0
  have e1 := HS4.out.cell.frozen 1
  have hcv : (convert 36 9 (.slice none 0 0)).run Try.prog w4.drew = .ok (.string ByteArray.empty) w4.drew := conv_row _ [] _ (.inl ⟨rfl, rfl⟩)
  clear HB4 HN4 HS2 HB2
  go_region
  go_wp2
  exact bodyPost_ret (results_tmp_cell_row Try.results62 _ _ w.heap.size 49 _ (0, 0) _ _ rfl rfl (HS4.out.fin (.int .i64 why) (.int .i64 b)).1.drew Try.underlying49 rfl Try.size49) rfl ⟨rfl, (below_two HB5.out (Nat.le_refl _) _ _).drew⟩

end Go.Proofs.Ytbkboebinhafhaa
