import Derived.Test.YtbkboebinhafhaaRdC
namespace Go.Proofs.Ytbkboebinhafhaa
open Go.RowKit

set_option maxRecDepth 8000 in
set_option maxHeartbeats 1000000 in
theorem xzag_any (x : Int) (w : World) (hx0 : 0 ≤ x) (hx1 : x < 18446744073709551616) :
    Calls Try.prog 82 #[.int .u64 x] w fun e w' => e = .returned (.int .i64 (zag x)) ∧ w' = w := by
  have h2 : 0 ≤ x / 2 := by omega
  have h3 : x / 2 ≤ 9223372036854775807 := by omega
  obtain ⟨z, hz⟩ : ∃ z, Keep (z = zag x) := ⟨_, ⟨rfl⟩⟩
  rw [← hz.out]
  by_cases h : x % 2 = 0
  · have h' : (x % 2 == 0) = true := by simp [h]
    have hy : Keep (z = x / 2) := ⟨by rw [hz.out]; unfold zag; rw [if_neg (by omega)]⟩
    clear hx1 h hz
    go_enter Try.func82, Try.ntmps82
    go_wp2
    go_ret
    refine ⟨?_, rfl⟩
    rw [hy.out]
    try rfl
  · have h' : (x % 2 == 0) = false := by simpa using h
    have hy : Keep (z = -(x / 2) - 1) := ⟨by rw [hz.out]; unfold zag; rw [if_pos (by omega)]⟩
    clear hx1 h hz
    go_enter Try.func82, Try.ntmps82
    go_wp2
    go_ret
    refine ⟨?_, rfl⟩
    rw [hy.out]
    try rfl

set_option maxRecDepth 8000 in
set_option maxHeartbeats 2000000 in
theorem xsigned_bad (x : Nat) (vB : Value) (a : Nat) (why b : Int) (w : World) (h : RfAt w x vB a why b) (hw : why ≠ 0) :
    Calls Try.prog 63 #[ptr x] w (RfStuck why b (.int .i64 0) w) := by
  have HS := Keep.mk (RS.start h)
  have HB := Keep.mk (below_new w (.cells #[.int .i64 0, .int .i64 0] 49))
  have hy1 : (why == 0) = false := by simpa using hw
  have Hw := Keep.mk hw
  clear h hw
  go_enter Try.func63, Try.ntmps63
  go_wp2_with (first | (refine wpList_new rfl 49 rfl _ Try.new49 ?_; refine Hid.out ?_))
  refine hid_in ?_
  generalize w.alloc (.cells #[.int .i64 0, .int .i64 0] 49) = w1 at *
  go_wp2_with fail
  refine (xnum_bad x vB a why b _ w1 HS.out.rf Hw.out).mono ?_
  rintro e w2 ⟨rfl, hb2⟩
  have HS2 := Keep.mk (HS.out.later hb2)
  have HB2 := Keep.mk (HB.out.trans (hb2.mono HB.out.size))
  clear hb2 HS HB
  go_wp2_with (first | (refine wpList_new rfl 49 rfl _ Try.new49 ?_; refine Hid.out ?_))
  refine hid_in ?_
  have HN := Keep.mk (Blk.new w2 49 #[.int .i64 0, .int .i64 0])
  have HA := Keep.mk (below_new w2 (.cells #[.int .i64 0, .int .i64 0] 49))
  generalize w2.alloc (.cells #[.int .i64 0, .int .i64 0] 49) = w3 at *
  have n0 : w3.cell? ⟨w2.heap.size, 0, none⟩ = some (.int .i64 0) := by rw [HN.out.cell]; rfl
  have n1 : w3.cell? ⟨w2.heap.size, 1, none⟩ = some (.int .i64 0) := by rw [HN.out.cell]; rfl
  have m0 := HN.out.frozen 0
  have m1 := HN.out.frozen 1
  go_wp2_with fail
  have HN4 := Keep.mk (show Blk ((w3.setCell ⟨w2.heap.size, 0, none⟩ (.int .i64 why)).setCell ⟨w2.heap.size, 1, none⟩ (.int .i64 b)) w2.heap.size 49 #[.int .i64 why, .int .i64 b] from (HN.out.set 0 _).set 1 _)
  have HB4 := Keep.mk (below_two HA.out (Nat.le_refl _) (.int .i64 why) (.int .i64 b))
  clear n0 n1 m0 m1 HN HA
  generalize (w3.setCell ⟨w2.heap.size, 0, none⟩ (.int .i64 why)).setCell ⟨w2.heap.size, 1, none⟩ (.int .i64 b) = w4 at *
  have HS4 := Keep.mk (HS2.out.later HB4.out)
  have HB5 := Keep.mk (HB2.out.trans (HB4.out.mono HB2.out.size))
  have n0 : w4.cell? ⟨w2.heap.size, 0, none⟩ = some (.int .i64 why) := by rw [HN4.out.cell]; rfl
  have n1 : w4.cell? ⟨w2.heap.size, 1, none⟩ = some (.int .i64 b) := by rw [HN4.out.cell]; rfl
  have d0 := HS4.out.d0
  have d1 := HS4.out.d1
  have e0 := HS4.out.cell.frozen 0
  have e1 := HS4.out.cell.frozen 1
  clear HS2 HB2 HB4 HN4
  go_region
  go_wp2
  exact bodyPost_ret (results_tmp_cell_row Try.results63 _ _ w.heap.size 49 _ (0, 0) _ _ rfl rfl (HS4.out.fin (.int .i64 why) (.int .i64 b)).1.drew Try.underlying49 rfl Try.size49) rfl ⟨rfl, (below_two HB5.out (Nat.le_refl _) _ _).drew⟩

set_option maxRecDepth 8000 in
set_option maxHeartbeats 4000000 in
theorem xsigned_good (x : Nat) (vB : Value) (l : List Int) (a : Nat) (w : World) (h : RfAt w x vB a 0 0) (hR : ∀ wx, (Grown w wx fun k => k = x) → RowAt wx vB l) (ha : a ≤ l.length) (hb : l.length ≤ 140737488355328) (hby : Byts l) (D : List Int) (hD : D = l.drop a) (W X : Int) (N : Nat) (hM : fstM D 18446744073709551615 = (X, (N : Int), W)) (y : Int) (hy : y = if W = 0 then zag X else 0) (hx0 : 0 ≤ X) (hx1 : X < 18446744073709551616) :
    Calls Try.prog 63 #[ptr x] w (RfPost x vB W (a + N) (.int .i64 y) w) := by
  have HS := Keep.mk (RS.start h)
  have HC : Keep (∀ w1, RS w x vB a 0 0 w1 → Calls Try.prog 48 #[ptr x, .int .u64 18446744073709551615] w1 (RfPost x vB W (a + N) (.int .u64 X) w1)) := ⟨fun w1 hs => by
    have := xnum_good x vB l a 18446744073709551615 w1 hs.rf (fun wx hg => hR wx (hs.gr.trans hg)) ha hb hby D hD W X N hM
    rw [show ((18446744073709551615 : Nat) : Int) = 18446744073709551615 from rfl] at this
    exact this⟩
  have HX0 := Keep.mk hx0
  have HX1 := Keep.mk hx1
  have HY := Keep.mk hy
  clear h hR ha hb hby hD hM hy hx0 hx1
  go_enter Try.func63, Try.ntmps63
  go_wp2_with (first | (refine wpList_new rfl 49 rfl _ Try.new49 ?_; refine Hid.out ?_))
  refine hid_in ?_
  generalize w.alloc (.cells #[.int .i64 0, .int .i64 0] 49) = w1 at *
  go_wp2_with fail
  refine (HC.out w1 HS.out).mono ?_
  rintro e w2 ⟨b, hE, rfl, hr, hg⟩
  have HS2 := Keep.mk (HS.out.turned hr hg)
  clear hr hg HS HC
  rcases hE with ⟨hW, rfl⟩ | ⟨hW, rfl⟩
  · obtain rfl : y = zag X := by rw [HY.out, if_pos hW]
    subst hW
    clear HY
    go_wp2_with (first | (refine wpList_new rfl 49 rfl _ Try.new49 ?_; refine Hid.out ?_))
    refine hid_in ?_
    have HN := Keep.mk (Blk.new w2 49 #[.int .i64 0, .int .i64 0])
    have HA := Keep.mk (below_new w2 (.cells #[.int .i64 0, .int .i64 0] 49))
    generalize w2.alloc (.cells #[.int .i64 0, .int .i64 0] 49) = w3 at *
    have n0 : w3.cell? ⟨w2.heap.size, 0, none⟩ = some (.int .i64 0) := by rw [HN.out.cell]; rfl
    have n1 : w3.cell? ⟨w2.heap.size, 1, none⟩ = some (.int .i64 0) := by rw [HN.out.cell]; rfl
    have m0 := HN.out.frozen 0
    have m1 := HN.out.frozen 1
    go_wp2_with fail
    have HN4 := Keep.mk (show Blk ((w3.setCell ⟨w2.heap.size, 0, none⟩ (.int .i64 0)).setCell ⟨w2.heap.size, 1, none⟩ (.int .i64 0)) w2.heap.size 49 #[.int .i64 0, .int .i64 0] from (HN.out.set 0 _).set 1 _)
    have HB4 := Keep.mk (below_two HA.out (Nat.le_refl _) (.int .i64 0) (.int .i64 0))
    clear n0 n1 m0 m1 HN HA
    generalize (w3.setCell ⟨w2.heap.size, 0, none⟩ (.int .i64 0)).setCell ⟨w2.heap.size, 1, none⟩ (.int .i64 0) = w4 at *
    have HS4 := Keep.mk (HS2.out.later HB4.out)
    have n0 : w4.cell? ⟨w2.heap.size, 0, none⟩ = some (.int .i64 0) := by rw [HN4.out.cell]; rfl
    have n1 : w4.cell? ⟨w2.heap.size, 1, none⟩ = some (.int .i64 0) := by rw [HN4.out.cell]; rfl
    have d0 := HS4.out.d0
    have d1 := HS4.out.d1
    have e0 := HS4.out.cell.frozen 0
    have e1 := HS4.out.cell.frozen 1
    clear HB4 HN4 HS2
    go_region_with (go_at_call 82; refine (xzag_any X _ HX0.out HX1.out).mono ?_; rintro e w' ⟨rfl, rfl⟩)
    all_goals
      go_wp2
      have hf := HS4.out.fin (.int .i64 0) (.int .i64 0)
      exact bodyPost_ret (results_tmp_cell_row Try.results63 _ _ w.heap.size 49 _ (0, 0) _ _ rfl rfl hf.1.drew Try.underlying49 rfl Try.size49) rfl ⟨_, .inl ⟨rfl, rfl⟩, rfl, (Blk.drew hf.2.1), hf.2.2.drew⟩
  · obtain rfl : y = 0 := by rw [HY.out, if_neg hW]
    have Hw0 := Keep.mk hW
    have hy1 : (W == 0) = false := by simpa using hW
    clear HY hW
    go_wp2_with (first | (refine wpList_new rfl 49 rfl _ Try.new49 ?_; refine Hid.out ?_))
    refine hid_in ?_
    have HN := Keep.mk (Blk.new w2 49 #[.int .i64 0, .int .i64 0])
    have HA := Keep.mk (below_new w2 (.cells #[.int .i64 0, .int .i64 0] 49))
    generalize w2.alloc (.cells #[.int .i64 0, .int .i64 0] 49) = w3 at *
    have n0 : w3.cell? ⟨w2.heap.size, 0, none⟩ = some (.int .i64 0) := by rw [HN.out.cell]; rfl
    have n1 : w3.cell? ⟨w2.heap.size, 1, none⟩ = some (.int .i64 0) := by rw [HN.out.cell]; rfl
    have m0 := HN.out.frozen 0
    have m1 := HN.out.frozen 1
    go_wp2_with fail
    have HN4 := Keep.mk (show Blk ((w3.setCell ⟨w2.heap.size, 0, none⟩ (.int .i64 W)).setCell ⟨w2.heap.size, 1, none⟩ (.int .i64 ((a : Int) + (N : Int)))) w2.heap.size 49 #[.int .i64 W, .int .i64 ((a : Int) + (N : Int))] from (HN.out.set 0 _).set 1 _)
    have HB4 := Keep.mk (below_two HA.out (Nat.le_refl _) (.int .i64 W) (.int .i64 ((a : Int) + (N : Int))))
    clear n0 n1 m0 m1 HN HA
    generalize (w3.setCell ⟨w2.heap.size, 0, none⟩ (.int .i64 W)).setCell ⟨w2.heap.size, 1, none⟩ (.int .i64 ((a : Int) + (N : Int))) = w4 at *
    have HS4 := Keep.mk (HS2.out.later HB4.out)
    have n0 : w4.cell? ⟨w2.heap.size, 0, none⟩ = some (.int .i64 W) := by rw [HN4.out.cell]; rfl
    have n1 : w4.cell? ⟨w2.heap.size, 1, none⟩ = some (.int .i64 ((a : Int) + (N : Int))) := by rw [HN4.out.cell]; rfl
    have d0 := HS4.out.d0
    have d1 := HS4.out.d1
    have e0 := HS4.out.cell.frozen 0
    have e1 := HS4.out.cell.frozen 1
    clear HB4 HN4 HS2
    go_region
    go_wp2
    have hf := HS4.out.fin (.int .i64 W) (.int .i64 ((a : Int) + (N : Int)))
    exact bodyPost_ret (results_tmp_cell_row Try.results63 _ _ w.heap.size 49 _ (0, 0) _ _ rfl rfl hf.1.drew Try.underlying49 rfl Try.size49) rfl ⟨_, .inr ⟨Hw0.out, rfl⟩, rfl, (Blk.drew hf.2.1), hf.2.2.drew⟩

set_option maxRecDepth 8000 in
set_option maxHeartbeats 2000000 in
theorem xbytes_bad (x : Nat) (vB : Value) (a : Nat) (why b most : Int) (w : World) (h : RfAt w x vB a why b) (hw : why ≠ 0) (hm1 : -9223372036854775808 ≤ most) (hm2 : most ≤ 9223372036854775807) :
    Calls Try.prog 81 #[ptr x, .int .i64 most] w (RfStuck why b (.slice none 0 0) w) := by
  have HS := Keep.mk (RS.start h)
  have HB := Keep.mk (below_new w (.cells #[.int .i64 0, .int .i64 0] 49))
  have hy1 : (why == 0) = false := by simpa using hw
  have Hw := Keep.mk hw
  have hwm : Keep (0 ≤ most → IntKind.u64.wrap most = most) := ⟨fun h => by rw [IntKind.wrap_u64]; omega⟩
  clear h hw hm1 hm2
  by_cases hneg : most < 0
  all_goals
    go_enter Try.func81, Try.ntmps81
    go_wp2_with (first | (refine wpList_new rfl 49 rfl _ Try.new49 ?_; refine Hid.out ?_))
    refine hid_in ?_
    generalize w.alloc (.cells #[.int .i64 0, .int .i64 0] 49) = w1 at *
    go_wp2_with fail
    refine (xnum_bad x vB a why b _ w1 HS.out.rf Hw.out).mono ?_
    rintro e w2 ⟨rfl, hb2⟩
    have HS2 := Keep.mk (HS.out.later hb2)
    have HB2 := Keep.mk (HB.out.trans (hb2.mono HB.out.size))
    clear hb2 HS HB
    go_wp2_with (first | (refine wpList_new rfl 49 rfl _ Try.new49 ?_; refine Hid.out ?_))
    refine hid_in ?_
    have HN := Keep.mk (Blk.new w2 49 #[.int .i64 0, .int .i64 0])
    have HA := Keep.mk (below_new w2 (.cells #[.int .i64 0, .int .i64 0] 49))
    generalize w2.alloc (.cells #[.int .i64 0, .int .i64 0] 49) = w3 at *
    have n0 : w3.cell? ⟨w2.heap.size, 0, none⟩ = some (.int .i64 0) := by rw [HN.out.cell]; rfl
    have n1 : w3.cell? ⟨w2.heap.size, 1, none⟩ = some (.int .i64 0) := by rw [HN.out.cell]; rfl
    have m0 := HN.out.frozen 0
    have m1 := HN.out.frozen 1
    go_wp2_with fail
    have HN4 := Keep.mk (show Blk ((w3.setCell ⟨w2.heap.size, 0, none⟩ (.int .i64 why)).setCell ⟨w2.heap.size, 1, none⟩ (.int .i64 b)) w2.heap.size 49 #[.int .i64 why, .int .i64 b] from (HN.out.set 0 _).set 1 _)
    have HB4 := Keep.mk (below_two HA.out (Nat.le_refl _) (.int .i64 why) (.int .i64 b))
    clear n0 n1 m0 m1 HN HA
    generalize (w3.setCell ⟨w2.heap.size, 0, none⟩ (.int .i64 why)).setCell ⟨w2.heap.size, 1, none⟩ (.int .i64 b) = w4 at *
    have HS4 := Keep.mk (HS2.out.later HB4.out)
    have HB5 := Keep.mk (HB2.out.trans (HB4.out.mono HB2.out.size))
    have n0 : w4.cell? ⟨w2.heap.size, 0, none⟩ = some (.int .i64 why) := by rw [HN4.out.cell]; rfl
    have n1 : w4.cell? ⟨w2.heap.size, 1, none⟩ = some (.int .i64 b) := by rw [HN4.out.cell]; rfl
    have d0 := HS4.out.d0
    have d1 := HS4.out.d1
    have e0 := HS4.out.cell.frozen 0
    have e1 := HS4.out.cell.frozen 1
    clear HS2 HB2 HB4 HN4
    go_region
    go_wp2
    exact bodyPost_ret (results_tmp_cell_row Try.results81 _ _ w.heap.size 49 _ (0, 0) _ _ rfl rfl (HS4.out.fin (.int .i64 why) (.int .i64 b)).1.drew Try.underlying49 rfl Try.size49) rfl ⟨rfl, (below_two HB5.out (Nat.le_refl _) _ _).drew⟩
end Go.Proofs.Ytbkboebinhafhaa
