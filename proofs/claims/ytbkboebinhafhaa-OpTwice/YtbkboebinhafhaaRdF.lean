import Derived.Test.YtbkboebinhafhaaRdE
namespace Go.Proofs.Ytbkboebinhafhaa
open Go.RowKit

theorem build84 : (#[.int .u8 0, .int .u8 0, .int .u8 0, .int .u8 0, .int .u8 0, .int .u8 0, .int .u8 0, .int .u8 0, .int .u8 0, .int .u8 0, .int .u8 0, .int .u8 0, .int .u8 0, .int .u8 0, .int .u8 0, .int .u8 0, .int .u8 0, .int .u8 0, .int .u8 0, .int .u8 0, .int .u8 0, .int .u8 0, .int .u8 0, .int .u8 0, .int .u8 0, .int .u8 0, .int .u8 0, .int .u8 0, .int .u8 0, .int .u8 0, .int .u8 0, .int .u8 0] : Array Value) = bytesA 32 fun _ => 0 := by kernel_rfl
theorem copy_next (L : List Int) (t : Nat) : ∀ i, (upd (fun i => if i < t then L.getD i 0 else 0) t (L.getD t 0)) i = (fun i => if i < t + 1 then L.getD i 0 else 0) i := by
  intro i
  unfold upd
  by_cases h : i = t
  · subst h; simp
  · simp only [if_neg h]
    by_cases h2 : i < t
    · rw [if_pos h2, if_pos (by omega)]
    · rw [if_neg h2, if_neg (by omega)]

set_option maxRecDepth 8000 in
set_option maxHeartbeats 1000000 in
theorem xhash_core (x : Nat) (w : World) (W b : Int) (L : List Int) (R : World → Prop)
    (hC : ∀ wB, Below w.heap.size w wB → Calls Try.prog 24 #[ptr x, .int .i64 32] wB (fun e w' => ∃ res, e = .returned (.tuple #[res, .agg #[.int .i64 W, .int .i64 b]]) ∧ R w' ∧ RowAt w' res L ∧ (∀ k, res.ownBlock = some k → wB.heap.size ≤ k) ∧ Grown wB w' fun k => k = x))
    (hRk : ∀ wa wb, R wa → (Grown wa wb fun k => w.heap.size ≤ k) → R wb) (hx : x < w.heap.size) (hL : L.length ≤ 32) :
    Calls Try.prog 64 #[ptr x] w (fun e w' => e = .returned (.tuple #[.agg (bytesA 32 fun i => L.getD i 0), .agg #[.int .i64 W, .int .i64 b]]) ∧ R w' ∧ Grown w w' fun k => k = x) := by
  have HC := Keep.mk hC
  have HK := Keep.mk hRk
  have Hx := Keep.mk hx
  have HL := Keep.mk hL
  have hLi : (L.length : Int) ≤ 32 := by omega
  obtain ⟨n, hn⟩ : ∃ n, Keep (n = w.heap.size) := ⟨_, ⟨rfl⟩⟩
  have hA : Blk (((w.alloc (.cells (bytesA 32 fun _ => 0) 29)).alloc (.cells #[.int .i64 0, .int .i64 0] 49)).alloc (.cells (bytesA 32 fun _ => 0) 29)) w.heap.size 29 (bytesA 32 fun _ => 0) := ((Blk.new w 29 _).alloc _).alloc _
  have hB : Blk (((w.alloc (.cells (bytesA 32 fun _ => 0) 29)).alloc (.cells #[.int .i64 0, .int .i64 0] 49)).alloc (.cells (bytesA 32 fun _ => 0) 29)) (w.heap.size + 1) 49 #[.int .i64 0, .int .i64 0] := by
    have h := (Blk.new (w.alloc (.cells (bytesA 32 fun _ => 0) 29)) 49 #[.int .i64 0, .int .i64 0]).alloc (.cells (bytesA 32 fun _ => 0) 29)
    simp only [World.size_alloc] at h
    exact h
  have hH : Blk (((w.alloc (.cells (bytesA 32 fun _ => 0) 29)).alloc (.cells #[.int .i64 0, .int .i64 0] 49)).alloc (.cells (bytesA 32 fun _ => 0) 29)) (w.heap.size + 2) 29 (bytesA 32 fun _ => 0) := by
    have h := Blk.new ((w.alloc (.cells (bytesA 32 fun _ => 0) 29)).alloc (.cells #[.int .i64 0, .int .i64 0] 49)) 29 (bytesA 32 fun _ => 0)
    simp only [World.size_alloc] at h
    exact h
  have hBl : Below w.heap.size w (((w.alloc (.cells (bytesA 32 fun _ => 0) 29)).alloc (.cells #[.int .i64 0, .int .i64 0] 49)).alloc (.cells (bytesA 32 fun _ => 0) 29)) := (((Below.refl _ _).alloc (Nat.le_refl _) _).alloc (by simp) _).alloc (by simp; omega) _
  have hsz : (((w.alloc (.cells (bytesA 32 fun _ => 0) 29)).alloc (.cells #[.int .i64 0, .int .i64 0] 49)).alloc (.cells (bytesA 32 fun _ => 0) 29)).heap.size = w.heap.size + 3 := by simp
  have HH := Keep.mk hH
  have HA := Keep.mk hA
  have HB := Keep.mk hB
  have HBl := Keep.mk hBl
  have Hsz := Keep.mk hsz
  clear hC hRk hx hL hA hB hH hBl hsz
  go_enter Try.func64, Try.ntmps64
  go_wp2_with (first | (refine wpList_new rfl 29 rfl _ Try.new29 ?_; refine Hid.out ?_) | (refine wpList_new rfl 49 rfl _ Try.new49 ?_; refine Hid.out ?_))
  refine hid_in ?_
  go_wp2_with (first | (refine wpList_new rfl 29 rfl _ Try.new29 ?_; refine Hid.out ?_) | (refine wpList_new rfl 49 rfl _ Try.new49 ?_; refine Hid.out ?_))
  refine hid_in ?_
  refine wpList_store_row rfl 29 (.tmp 4) (.tmp 8) rfl (w.heap.size + 1 + 1) (bytesA 32 fun _ => 0) rfl (congrArg Value.agg build84) 29 (bytesA 32 fun _ => 0) HH.out (Try.size29B _) (bytesA_sizes _ _ _) (bytesA_one _ _) ?_
  have HH2 : Keep (Blk ((((w.alloc (.cells (bytesA 32 fun _ => 0) 29)).alloc (.cells #[.int .i64 0, .int .i64 0] 49)).alloc (.cells (bytesA 32 fun _ => 0) 29)).setRow (w.heap.size + 1 + 1) (bytesA 32 fun _ => 0)) (w.heap.size + 1 + 1) 29 (bytesA 32 fun _ => 0)) := ⟨HH.out.setRow (bytesA 32 fun _ => 0)⟩
  have HA2 := Keep.mk (HA.out.setRow_ne (b' := w.heap.size + 1 + 1) (by omega) (bytesA 32 fun _ => 0))
  have HB2 := Keep.mk (HB.out.setRow_ne (b' := w.heap.size + 1 + 1) (by omega) (bytesA 32 fun _ => 0))
  have HBl2 := Keep.mk (below_setRow (b := w.heap.size + 1 + 1) HBl.out (by omega) (bytesA 32 fun _ => 0))
  have Hsz2 : Keep (w.heap.size + 3 ≤ ((((w.alloc (.cells (bytesA 32 fun _ => 0) 29)).alloc (.cells #[.int .i64 0, .int .i64 0] 49)).alloc (.cells (bytesA 32 fun _ => 0) 29)).setRow (w.heap.size + 1 + 1) (bytesA 32 fun _ => 0)).heap.size) := ⟨by
    have := (Grown.setRow (((w.alloc (.cells (bytesA 32 fun _ => 0) 29)).alloc (.cells #[.int .i64 0, .int .i64 0] 49)).alloc (.cells (bytesA 32 fun _ => 0) 29)) (w.heap.size + 1 + 1) (bytesA 32 fun _ => 0) (S := fun _ => True) fun _ => trivial).size
    have := Hsz.out
    omega⟩
  clear HH HA HB HBl Hsz
  generalize (((w.alloc (.cells (bytesA 32 fun _ => 0) 29)).alloc (.cells #[.int .i64 0, .int .i64 0] 49)).alloc (.cells (bytesA 32 fun _ => 0) 29)).setRow (w.heap.size + 1 + 1) (bytesA 32 fun _ => 0) = wB at *
  simp only [Act.put]
  go_wp2_with fail
  refine (HC.out wB HBl2.out).mono ?_
  rintro e w5 ⟨res, rfl, hr, hrow, hok, hg⟩
  obtain ⟨ra, rc, rfl⟩ := row_form hrow
  have HA5 := Keep.mk (hg.blk HA2.out (by have := Hx.out; omega))
  have HB5 := Keep.mk (hg.blk HB2.out (by have := Hx.out; omega))
  have HH5 := Keep.mk (hg.blk HH2.out (by have := Hx.out; omega))
  have HG5 : Keep (Grown w w5 fun k => k = x) := ⟨(Grown.below HBl2.out).trans hg⟩
  have HR5 := Keep.mk hr
  have HRow := Keep.mk hrow
  have HOk : Keep (∀ k, (Value.slice ra L.length rc).ownBlock = some k → w.heap.size + 3 ≤ k) := ⟨fun k hk => Nat.le_trans Hsz2.out (hok k hk)⟩
  have Hg6 : Keep (w.heap.size + 3 ≤ w5.heap.size) := ⟨Nat.le_trans Hsz2.out hg.size⟩
  clear hr hrow hok hg HA2 HB2 HH2 HBl2 Hsz2 HC
  go_wp2_with (first | (refine wpList_new rfl 49 rfl _ Try.new49 ?_; refine Hid.out ?_))
  refine hid_in ?_
  have HN := Keep.mk (Blk.new w5 49 #[.int .i64 0, .int .i64 0])
  have HAl := Keep.mk (below_new w5 (.cells #[.int .i64 0, .int .i64 0] 49))
  generalize w5.alloc (.cells #[.int .i64 0, .int .i64 0] 49) = w6 at *
  have n0 : w6.cell? ⟨w5.heap.size, 0, none⟩ = some (.int .i64 0) := by rw [HN.out.cell]; rfl
  have n1 : w6.cell? ⟨w5.heap.size, 1, none⟩ = some (.int .i64 0) := by rw [HN.out.cell]; rfl
  have m0 := HN.out.frozen 0
  have m1 := HN.out.frozen 1
  go_wp2_with fail
  have HN4 := Keep.mk (show Blk ((w6.setCell ⟨w5.heap.size, 0, none⟩ (.int .i64 W)).setCell ⟨w5.heap.size, 1, none⟩ (.int .i64 b)) w5.heap.size 49 #[.int .i64 W, .int .i64 b] from (HN.out.set 0 _).set 1 _)
  have HB4 := Keep.mk (below_two HAl.out (Nat.le_refl _) (.int .i64 W) (.int .i64 b))
  clear n0 n1 m0 m1 HN HAl
  generalize (w6.setCell ⟨w5.heap.size, 0, none⟩ (.int .i64 W)).setCell ⟨w5.heap.size, 1, none⟩ (.int .i64 b) = w7 at *
  have HA7 := Keep.mk (HA5.out.below HB4.out HA5.out.lt)
  have HB7 := Keep.mk (HB5.out.below HB4.out HB5.out.lt)
  have HH7 := Keep.mk (HH5.out.below HB4.out HH5.out.lt)
  have HG7 : Keep (Grown w w7 fun k => k = x) := ⟨HG5.out.trans (Grown.below HB4.out)⟩
  have HR7 : Keep (R w7) := ⟨HK.out _ _ HR5.out (Grown.below HB4.out)⟩
  have HRow7 := Keep.mk (HRow.out.below HB4.out)
  obtain ⟨g6, hg6⟩ : ∃ g6, Keep (g6 = w5.heap.size) := ⟨_, ⟨rfl⟩⟩
  rw [← hg6.out] at HN4 Hg6 ⊢
  clear HA5 HB5 HH5 HG5 HR5 HRow HB4 hg6
  go_loopw [7] (fun i wr => ∃ t : Nat, t ≤ L.length ∧ i = .int .i64 (t : Int) ∧ Blk wr (w.heap.size + 1 + 1) 29 (bytesA 32 fun i => if i < t then L.getD i 0 else 0) ∧ Grown w7 wr (fun k => k = w.heap.size + 1 + 1)) (fun i _ => L.length - (intOf i).toNat)
  case atStart => exact ⟨0, by omega, rfl, by rw [show (fun i => if i < 0 then L.getD i 0 else 0) = (fun _ => (0 : Int)) from funext fun i => by simp]; exact HH7.out, Grown.refl _ _⟩
  case round =>
    obtain ⟨t, ht, rfl, hH, hG⟩ := hrel
    have HH9 := Keep.mk hH
    have HG9 := Keep.mk hG
    by_cases hlt : t < L.length
    · have hlt' : (t : Int) < (L.length : Int) := by omega
      have hrw : RowAt wr (Value.slice ra L.length rc) L := HRow7.out.grown hG (fun k hk _ e => by have := HOk.out k hk; omega)
      obtain ⟨gb, go, rfl, hc⟩ : ∃ gb go, ra = some ⟨gb, go, none⟩ ∧ wr.cell? ⟨gb, go + t, none⟩ = some (.int .u8 (L.getD t 0)) := by
        rcases hrw with ⟨_, e⟩ | ⟨_, _, _, e⟩ | ⟨g, o, _, e, _, h3⟩
        · have : L.length = 0 := by rw [e]; rfl
          omega
        · have : L.length = 0 := by rw [e]; rfl
          omega
        · injection e with e1 e2
          exact ⟨g, o, e1, h3 t hlt⟩
      have d0 : wr.cell? ⟨w.heap.size + 1 + 1, t, none⟩ = some (.int .u8 (if t < t then L.getD t 0 else 0)) := by rw [hH.cell, bytesA_get _ _ _ (by have := HL.out; omega)]
      rw [if_neg (Nat.lt_irrefl t)] at d0
      have e0 := hH.frozen t
      have ht32 : (t : Int) < 32 := by omega
      obtain ⟨cv, hcv⟩ : ∃ cv, Keep (cv = L.getD t 0) := ⟨_, ⟨rfl⟩⟩
      rw [← hcv.out] at hc
      clear hH hG hrw
      go_wp2
      go_roundw
      case rel =>
        refine ⟨t + 1, by omega, by go_num, ?_, HG9.out.trans (Grown.setCell wr (w.heap.size + 1 + 1) t _ fun _ => rfl)⟩
        have := HH9.out.set t (.int .u8 cv)
        rw [bytesA_set, hcv.out] at this
        rw [hcv.out, ← show bytesA 32 (upd (fun i => if i < t then L.getD i 0 else 0) t (L.getD t 0)) = bytesA 32 (fun i => if i < t + 1 then L.getD i 0 else 0) from bytesA_congr fun i _ => copy_next L t i]
        exact this
      case measure => simp only [intOf]; omega
    · obtain rfl : t = L.length := by omega
      have hlt' : ¬ ((L.length : Int) < (L.length : Int)) := by omega
      have HA9 := Keep.mk (hG.blk HA7.out (by omega))
      have HB9 := Keep.mk (hG.blk HB7.out (by omega))
      have HC9 := Keep.mk (hG.blk HN4.out (by have := Hg6.out; omega))
      obtain ⟨c, hcd⟩ : ∃ c : Nat → Int, Keep (c = fun i => if i < L.length then L.getD i 0 else 0) := ⟨_, ⟨rfl⟩⟩
      rw [← hcd.out] at HH9
      obtain ⟨ca, hca⟩ : ∃ ca, Keep (ca = bytesA 32 c) := ⟨_, ⟨rfl⟩⟩
      have Hca1 : Keep ((Try.prog.info? 29).map (·.size) = some ca.size) := ⟨by rw [hca.out]; exact Try.size29B c⟩
      have Hca2 : Keep ((bytesA 32 fun _ => 0).size = ca.size) := ⟨by rw [hca.out]; exact bytesA_sizes _ _ _⟩
      have Hca3 : Keep (ca.all (·.oneCell') = true) := ⟨by rw [hca.out]; exact bytesA_one _ _⟩
      rw [← hca.out] at HH9
      have hi84 : (Try.prog.info? 29).map (·.size) = some ca.toList.length := by rw [Array.length_toList]; exact Hca1.out
      clear hH hG
      go_wp2_with fail
      refine wp_region_held_drew (S := fun wx => wx.rangeAt (w.heap.size + 1 + 1) 0 ca.toList ∧ wx.rangeAt g6 0 [.int .i64 W, .int .i64 b]) (by kernel_rfl) ⟨blk_range HH9.out.drew, blk_range HC9.out.drew⟩ (fun hHeld => ?_)
      refine wpAnyH_take (i := 0) (oi := ⟨some 26, Op.load 29 (Operand.tmp 4), 29, _, _, none⟩) (v := .agg ca.toList.toArray) rfl (by kernel_rfl) (by kernel_rfl) (by kernel_rfl) (fun _ _ _ h => h) (yieldsIf_load_mid (by rfl) 29 (.tmp 4) rfl (w.heap.size + 1 + 1) 0 rfl ca.toList _ (fun w hS => hS.1) Try.underlying29 rfl hi84) hHeld ?_
      simp only [Act.put, List.setIfInBounds_toArray, List.set_cons_zero, List.set_cons_succ]
      simp only [Array.toArray_toList]
      refine wpAnyH_take (i := 1) (oi := ⟨some 27, Op.load 49 (Operand.tmp 6), 49, _, _, none⟩) (v := .agg [.int .i64 W, .int .i64 b].toArray) rfl (by kernel_rfl) (by kernel_rfl) (by kernel_rfl) (fun _ _ _ h => h) (yieldsIf_load_mid (by rfl) 49 (.tmp 6) rfl g6 0 rfl [.int .i64 W, .int .i64 b] _ (fun w hS => hS.2) Try.underlying49 rfl Try.size49) hHeld ?_
      simp only [Act.put, List.setIfInBounds_toArray, List.set_cons_zero, List.set_cons_succ]
      refine wpAnyH_ready (rs := [2]) (by kernel_rfl) (by simp) ?_
      refine AllReadyH.cons (o := ⟨none, Op.store 29 (Operand.tmp 2) (Operand.tmp 26), 0, _, _, none⟩) rfl (fun K hK => ?_) AllReadyH.nil
      rw [if_pos (by rfl)]
      refine wp_store_row 29 (.tmp 2) (.tmp 26) rfl w.heap.size ca (by simp [Act.eval]) (by simp [Act.eval]) 29 (bytesA 32 fun _ => 0) HA9.out.drew Hca1.out Hca2.out Hca3.out ?_
      refine hK.out _ _ ⟨blk_range (HH9.out.drew.setRow_ne (by omega) _), blk_range (HC9.out.drew.setRow_ne (by have := Hg6.out; omega) _)⟩ fun hHeld5 => ?_
      clear hK
      simp only [Act.put]
      refine wpAnyH_ready (rs := [3]) (by kernel_rfl) (by simp) ?_
      refine AllReadyH.cons (o := ⟨none, Op.store 49 (Operand.tmp 3) (Operand.tmp 27), 0, _, _, none⟩) rfl (fun K hK => ?_) AllReadyH.nil
      rw [if_pos (by rfl)]
      refine wp_store_row 49 (.tmp 3) (.tmp 27) rfl (w.heap.size + 1) #[.int .i64 W, .int .i64 b] (by simp [Act.eval]) (by simp [Act.eval]) 49 #[.int .i64 0, .int .i64 0] (HB9.out.drew.setRow_ne (by omega) _) Try.size49 rfl (all_oneCell_toArray (cs := [.int .i64 W, .int .i64 b]) (fun v hv => by simp at hv; rcases hv with rfl | rfl <;> rfl)) ?_
      refine hK.out _ _ ⟨blk_range ((HH9.out.drew.setRow_ne (by omega) _).setRow_ne (by omega) _), blk_range ((HC9.out.drew.setRow_ne (by have := Hg6.out; omega) _).setRow_ne (by have := Hg6.out; omega) _)⟩ fun hHeld6 => ?_
      clear hK
      refine wpAnyH_done (by kernel_rfl) ?_ _
      go_wp2
      have hfin := bytesA_congr (n := 32) (c := c) (d := fun i => L.getD i 0) (fun i _ => by
        rw [hcd.out]
        by_cases hi : i < L.length
        · simp only [if_pos hi]
        · simp only [if_neg hi]
          rw [List.getD_eq_getElem?_getD, List.getElem?_eq_none (by omega)]; rfl)
      have hgf : Grown wr ((wr.drew.setRow w.heap.size ca).setRow (w.heap.size + 1) #[.int .i64 W, .int .i64 b]) (fun k => w.heap.size ≤ k) := ((Grown.refl wr _).drew.trans (Grown.setRow _ _ _ fun _ => Nat.le_refl _)).trans (Grown.setRow _ _ _ fun _ => Nat.le_succ _)
      refine bodyPost_ret (results_cell_cell_row Try.results64 _ _ w.heap.size (w.heap.size + 1) 29 49 _ _ (0, 0) (0, 0) _ _ rfl rfl ((HA9.out.drew.setRow _).setRow_ne (by omega) _) ((HB9.out.drew.setRow_ne (by omega) _).setRow _) Try.underlying29 rfl Hca1.out Try.underlying49 rfl Try.size49) rfl ⟨by rw [← hfin, hca.out], ?_, ?_⟩
      · exact HK.out _ _ HR7.out ((HG9.out.mono fun k _ e => by omega).trans hgf)
      · exact (HG7.out.next HG9.out fun k hk e => by omega).next hgf fun k hk e => by omega

theorem errB_one {why : Int} {a : Nat} {b : Int} (h : ErrB why a b) : b = if why = 0 then 0 else (a : Int) := by
  rcases h with ⟨h0, h1⟩ | ⟨h0, h1⟩
  · rw [if_pos h0, h1]
  · rw [if_neg h0, h1]
theorem errB_is (why : Int) (a : Nat) : ErrB why a (if why = 0 then 0 else (a : Int)) := by
  by_cases h : why = 0
  · rw [if_pos h]; exact .inl ⟨h, rfl⟩
  · rw [if_neg h]; exact .inr ⟨h, rfl⟩
theorem xhash_good (x : Nat) (vB : Value) (l : List Int) (a : Nat) (w : World) (h : RfAt w x vB a 0 0) (hR : ∀ wx, (Grown w wx fun k => k = x) → RowAt wx vB l) (ha : a ≤ l.length) (hb : l.length ≤ 140737488355328) (D : List Int) (hD : D = l.drop a) (W : Int) (hW : W = nextW D 32) (N : Nat) (hN : N = nextN D 32) :
    Calls Try.prog 64 #[ptr x] w (RfPost x vB W (a + N) (.agg (bytesA 32 (hrd D W))) w) := by
  have hx : x < w.heap.size := Blk.lt h
  have hN32 : N ≤ 32 := by
    by_cases h0 : W = 0
    · rw [hN, (nextN_0 D 32 (by rw [← hW]; exact h0)).1]; decide
    · rw [hN, nextN_1 D 32 (by rw [← hW]; exact h0)]; decide
  have hc := xhash_core x w W (if W = 0 then 0 else ((a + N : Nat) : Int)) (D.take N) (fun w' => RfAt w' x vB (a + N) W (if W = 0 then 0 else ((a + N : Nat) : Int))) (fun wB hB => by
    refine (xraw_good x vB l a 32 wB (Blk.below h hB hx) (fun wx hg => hR wx ((Grown.below hB).trans hg)) ha hb D hD W hW N hN).mono ?_
    rintro e w' ⟨b, res, hE, rfl, hr, hg, hrow, hok⟩
    have e := errB_one hE
    rw [e] at hr
    exact ⟨res, by rw [e], hr, hrow, hok, hg⟩)
    (fun wa wb h1 hg => hg.blk h1 (by omega)) hx (by rw [List.length_take]; omega)
  refine hc.mono ?_
  rintro e w' ⟨rfl, hr, hg⟩
  refine ⟨_, errB_is W (a + N), ?_, hr, hg⟩
  rw [bytesA_congr (n := 32) (c := fun i => (D.take N).getD i 0) (d := hrd D W) (fun i hi => ?_)]
  unfold hrd
  by_cases h0 : W = 0
  · have : N = 32 := by rw [hN, (nextN_0 D 32 (by rw [← hW]; exact h0)).1]; rfl
    rw [if_pos h0, this]
    simp [List.getD_eq_getElem?_getD, hi]
  · have : N = 0 := by rw [hN, nextN_1 D 32 (by rw [← hW]; exact h0)]
    rw [if_neg h0, this]
    simp
theorem xhash_bad (x : Nat) (vB : Value) (a : Nat) (why b : Int) (w : World) (h : RfAt w x vB a why b) (hw : why ≠ 0) :
    Calls Try.prog 64 #[ptr x] w (RfStuck why b (.agg (bytesA 32 fun _ => 0)) w) := by
  have hx : x < w.heap.size := Blk.lt h
  have hc := xhash_core x w why b [] (fun w' => Below w.heap.size w w') (fun wB hB => by
    refine (xraw_bad x vB a why b _ wB (Blk.below h hB hx) hw).mono ?_
    rintro e w' ⟨rfl, hb⟩
    exact ⟨_, rfl, hB.trans (hb.mono hB.size), .inl ⟨rfl, rfl⟩, fun k hk => by simp [Value.ownBlock] at hk, Grown.below hb⟩)
    (fun wa wb h1 hg => h1.trans (hg.to_below (fun k hk => by omega) h1.size)) hx (by simp)
  refine hc.mono ?_
  rintro e w' ⟨rfl, hr, hg⟩
  refine ⟨?_, hr⟩
  rw [bytesA_congr (n := 32) (c := fun i => ([] : List Int).getD i 0) (d := fun _ => 0) (fun i hi => by simp)]
end Go.Proofs.Ytbkboebinhafhaa
