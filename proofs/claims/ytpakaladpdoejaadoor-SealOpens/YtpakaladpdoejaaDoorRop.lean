import Derived.Test.YtpakaladpdoejaaDoorPrgF
import Derived.Test.YtpakaladpdoejaaDoorSealR
import Derived.Test.YtpakaladpdoejaaDoorMacR
namespace Go.Proofs.YtpakaladpdoejaaDoor
open Go.RowKit

theorem results_cell_row3 {P : Program} {fn : Func} {p u u' : Tmp} {ty : TypeId} (h : fn.results = #[.cell p ty, .tmp u, .tmp u']) (tmps : Array Value) (w : World) (g : Nat) (t : TypeId) (cs : Array Value) (fr : Nat × Nat) (d : TypeDesc) (y y' : Value)
    (hp : tmps.getD p undef = .pointer (some ⟨g, 0, none⟩)) (hy : tmps.getD u undef = y) (hy' : tmps.getD u' undef = y') (hg : w.heap[g]? = some (.cells cs t fr))
    (hu : P.underlying ty = some d) (hd : (match d with | .struct _ | .array _ _ => true | _ => false) = true) (hi : (P.info? ty).map (·.size) = some cs.size) :
    (results fn tmps).run P w = .ok (.tuple #[.agg cs, y, y']) w := by
  have hr := run_loadVar_row (P := P) w g t ty cs fr d hg hu hd hi
  simp only [results, h]
  simp only [Array.getD_eq_getD_getElem?] at hp hy hy'
  simp [Result.andThen, asAddr, hp, hy, hy', hr]
/-- What is left behind the document's Open. -/
def RefOpenP (key b : List Int) (w : World) (e : Ending) (w' : World) : Prop :=
  ∃ a n c l f t, e = .returned (.tuple #[.agg (env3 f t (.slice a n c)), .int .i64 (openE key b).1, .int .i64 (openE key b).2]) ∧ Below w.heap.size w w' ∧ OwnT w' (.slice a n c) l ∧ (∀ k, (Value.slice a n c).ownBlock = some k → w.heap.size ≤ k) ∧
    (((openE key b).1 = 0 ∧ f = b.getD 4 0 ∧ t = b.getD 5 0 ∧ l = openB b) ∨ ((openE key b).1 ≠ 0 ∧ f = 0 ∧ t = 0 ∧ l = []))
def markA : Array Value := #[.int .u8 80, .int .u8 76, .int .u8 69, .int .u8 49]
theorem mark_cell {w : World} {g : Nat} (h : Blk w g 5 markA) (t : Nat) (ht : t < 4) : w.cell? ⟨g, t, none⟩ = some (.int .u8 (markL.getD t 0)) := by
  rw [h.cell]
  rcases (by omega : t = 0 ∨ t = 1 ∨ t = 2 ∨ t = 3) with rfl | rfl | rfl | rfl <;> rfl
theorem wpList_sliceH {ops : Array Oper} {rest : List Oper} {o : Oper} {a : Act} {w : World} {Q : Exit → Act → World → Prop} (hgd : o.guard = none) (x hi : Operand) (ho : o.op = .slice 22 x none (some hi) none) (vx vh vs : Value)
    (hx : a.eval x = vx) (hh : a.eval hi = vh) (hr : ∀ w : World, (Instr.sliceAt 22 vx none (some vh) none).run Tryd.prog w = .ok vs w) (h : wpList Tryd.prog ops Q rest (a.put o.dst vs) w) : wpList Tryd.prog ops Q (o :: rest) a w := by
  refine wpList_plain hgd fun K hK => ?_
  exact wp_val vs (by unfold execOp; simp only [ho, hx, hh, Option.map_some, Option.map_none, Sem.run_bind, hr w, Result.andThen_ok, Sem.run_pure]) (hK _ _ h)
theorem Tryd.bs0 (w : World) : (Instr.buildSlice 22 0 #[]).run Tryd.prog w = .ok (.slice (some ⟨w.heap.size, 0, none⟩) 0 0) (w.alloc (.cells #[] 5)) := by kernel_rfl
theorem mac_all {b : List Int} {n : Nat} {c : Nat → Int} (hb : b.length = n + 42) (h : ∀ j, j < 32 → b.getD (n + 10 + j) 0 = c j) : b.drop (n + 10) = hl 32 c := by
  rw [← hl_drop b n hb]
  unfold hl
  apply List.map_congr_left
  intro i hi
  exact h i (List.mem_range.1 hi)
theorem mac_not {b : List Int} {n : Nat} {c : Nat → Int} (hb : b.length = n + 42) {j : Nat} (hj : j < 32) (h : b.getD (n + 10 + j) 0 ≠ c j) : ¬ b.drop (n + 10) = hl 32 c := by
  intro e
  rw [← hl_drop b n hb] at e
  have h1 := hl_get 32 (fun i => b.getD (n + 10 + i) 0) j hj
  have h2 := hl_get 32 c j hj
  rw [e, h2] at h1
  exact h h1.symm
set_option maxRecDepth 8000 in
set_option maxHeartbeats 4000000 in
theorem refOpen_any (vk vb : Value) (key b : List Int) (w : World) (hk : RowAt w vk key) (hb : RowAt w vb b) (hkl : key.length ≤ 140737488351232) (hbl : b.length ≤ 140737488351232) (hby : Byts b) :
    Calls Tryd.prog 6 #[vk, vb] w (RefOpenP key b w) := by
  have HRk := Keep.mk hk
  have HRb := Keep.mk hb
  have HKl := Keep.mk hkl
  have HBl := Keep.mk hbl
  have HBy := Keep.mk hby
  obtain ⟨ka, kc, rfl⟩ := row_form hk
  obtain ⟨ba, bc, rfl⟩ := row_form hb
  have HN0 := Keep.mk (show Blk (w.alloc (.cells #[.int .i64 0, .int .i64 0, .slice none 0 0] 26)) w.heap.size 26 (env3 0 0 (.slice none 0 0)) from Blk.new w 26 _)
  have HB0 := Keep.mk (below_new w (.cells #[.int .i64 0, .int .i64 0, .slice none 0 0] 26))
  clear hk hb hkl hbl hby
  by_cases hk32 : key.length = 32
  · have hk32' : ((key.length : Int) == 32) = true := by simp; omega
    have hkI : (key.length : Int) = 32 := by omega
    have Hk32 := Keep.mk hk32
    clear hk32
    go_enter Tryd.func6, Tryd.ntmps6
    go_wp2_with (first | (refine wpList_new rfl 26 rfl _ Tryd.new26 ?_; refine Hid.out ?_))
    refine hid_in ?_
    generalize w.alloc (.cells #[.int .i64 0, .int .i64 0, .slice none 0 0] 26) = w1 at *
    have HN2 := Keep.mk (HN0.out.alloc (.cells markA 5))
    have HB2 := Keep.mk (HB0.out.alloc HB0.out.size (.cells markA 5))
    have HM2 := Keep.mk (Blk.new w1 5 markA)
    have Hgm : Keep (w.heap.size < w1.heap.size) := ⟨HN0.out.lt⟩
    obtain ⟨n, hn⟩ : ∃ n, Keep (n = b.length) := ⟨_, ⟨rfl⟩⟩
    have hsm : (n : Int) ≤ 140737488351232 := by rw [hn.out]; have := HBl.out; omega
    rw [← hn.out] at HRb ⊢
    clear HN0 HB0
    go_wp2
    unfold markA at HN2 HB2 HM2
    obtain ⟨gm, hgm⟩ : ∃ gm, Keep (gm = w1.heap.size) := ⟨_, ⟨rfl⟩⟩
    rw [← hgm.out] at HM2 Hgm ⊢
    generalize w1.alloc (.cells #[.int .u8 80, .int .u8 76, .int .u8 69, .int .u8 49] 5) = w2 at *
    clear hgm
    go_loopw [8] (fun i wr => ∃ t : Nat, t ≤ 6 ∧ i = .int .i64 t ∧ Keep (∀ j, j < t → stepE b j = none) ∧ Keep (Blk wr w.heap.size 26 (env3 0 0 (.slice none 0 0))) ∧ Keep (Blk wr gm 5 markA) ∧ Keep (Below w.heap.size w wr)) (fun i _ => 6 - (intOf i).toNat)
    case atStart => exact ⟨0, by omega, rfl, ⟨fun j h => by omega⟩, HN2, HM2, HB2⟩
    case round =>
      clear HN2 HM2 HB2
      obtain ⟨t, ht, rfl, hall, HN, HM, HB⟩ := hrel
      by_cases hlt : t < 6
      · have hlt' : (t : Int) < 6 := by omega
        by_cases hs : n ≤ t
        · have hs' : (n : Int) ≤ (t : Int) := by omega
          have HE : Keep (openE key b = (20, (t : Int))) := ⟨openP_some Hk32.out (formE_some (headE_some (by omega) hall.out (by unfold stepE; rw [if_pos (by rw [← hn.out]; exact hs)])))⟩
          clear hall
          go_wp2_with (first | (refine wpList_store_row rfl 26 (.tmp 4) (.tmp 26) rfl w.heap.size (env3 0 0 (.slice none 0 0)) rfl rfl 26 (env3 0 0 (.slice none 0 0)) HN.out (env3_info _ _ _) rfl (env3_one _ _ _ _ _) ?_; refine Hid.out ?_))
          refine hid_in ?_
          have HNz := Keep.mk (HN.out.setRow (env3 0 0 (.slice none 0 0)))
          have HBz := Keep.mk (below_setRow HB.out (Nat.le_refl _) (env3 0 0 (.slice none 0 0)))
          go_wp2
          exact bodyPost_ret (v := .tuple #[.agg (env3 0 0 (.slice none 0 0)), .int .i64 20, .int .i64 (t : Int)]) (results_cell_row3 Tryd.results6 _ _ w.heap.size 26 _ (0, 0) _ _ _ rfl rfl rfl HNz.out Tryd.underlying26 rfl (env3_info _ _ _)) rfl ⟨none, 0, 0, [], 0, 0, by rw [HE.out] <;> rfl, HBz.out, .inl ⟨rfl, rfl⟩, by simp [Value.ownBlock], by rw [HE.out]; exact .inr ⟨show (20 : Int) ≠ 0 by decide, rfl, rfl, rfl⟩⟩
        · have hs' : ¬ (n : Int) ≤ (t : Int) := by omega
          have hs'' : (t : Int) < (n : Int) := by omega
          obtain ⟨g, off, cap, e, hc⟩ := row_cells HRb.out (by have := hn.out; omega)
          injection e with e1 e2 e3
          subst e1 e3
          have Hg : Keep (g < w.heap.size) := ⟨cell_lt (hc t (by have := hn.out; omega))⟩
          have ct : wr.cell? ⟨g, off + t, none⟩ = some (.int .u8 (b.getD t 0)) := by rw [HB.out.cell (p := ⟨g, off + t, none⟩) Hg.out]; exact hc t (by have := hn.out; omega)
          have hx := HBy.out.getD t
          have HS : Keep (stepE b t = if t < 4 ∧ b.getD t 0 ≠ markL.getD t 0 then some (5, (t : Int)) else if 4 ≤ t ∧ ¬ okN (b.getD t 0) then some (1, (t : Int)) else none) := ⟨by unfold stepE; rw [if_neg (by rw [← hn.out]; exact hs)]⟩
          generalize b.getD t 0 = x at *
          obtain ⟨x0, x1⟩ := hx
          clear hc e2 hs
          by_cases h4 : t < 4
          · have h4' : (t : Int) < 4 := by omega
            have h4n : ¬ (4 : Int) ≤ (t : Int) := by omega
            have cm := mark_cell HM.out t h4
            by_cases hm : x = markL.getD t 0
            · have HA : Keep (∀ j, j < t + 1 → stepE b j = none) := ⟨next_none hall.out (by rw [HS.out, if_neg (fun h => h.2 hm), if_neg (fun h => by omega)])⟩
              have hmb : (x != markL.getD t 0) = false := by simpa using hm
              clear HS hm hall
              generalize markL.getD t 0 = mk at *
              obtain ⟨r, HT⟩ : ∃ r, Keep (r = decide (okN x)) := ⟨_, ⟨rfl⟩⟩
              go_wp2_with fail
              go_quiet (fail)
              have ct2 : (wr.drewN nq).cell? ⟨g, off + t, none⟩ = some (.int .u8 x) := ct
              have HN3 : Keep (Blk (wr.drewN nq) w.heap.size 26 (env3 0 0 (.slice none 0 0))) := ⟨HN.out.drewN nq⟩
              have HM3 : Keep (Blk (wr.drewN nq) gm 5 markA) := ⟨HM.out.drewN nq⟩
              have HB3 : Keep (Below w.heap.size w (wr.drewN nq)) := ⟨below_drewK HB.out nq⟩
              generalize wr.drewN nq = w3 at *
              clear HN HM HB ct cm
              go_wp2_with fail
              refine (rep_any x _ HT.out w3).mono ?_
              rintro e w4 ⟨rfl, hw4⟩
              rw [hw4]
              clear hw4 HT
              go_wp2
              go_roundw
              case rel => exact ⟨t + 1, by omega, by go_num, HA, HN3, HM3, HB3⟩
              case measure => simp only [intOf]; omega
            · have HE : Keep (openE key b = (5, (t : Int))) := ⟨openP_some Hk32.out (formE_some (headE_some (by omega) hall.out (by rw [HS.out, if_pos ⟨h4, hm⟩])))⟩
              have hmb : (x != markL.getD t 0) = true := by simpa using hm
              clear HS hm hall
              generalize markL.getD t 0 = mk at *
              go_wp2_with fail
              go_quiet (fail)
              have HN3 : Keep (Blk (wr.drewN nq) w.heap.size 26 (env3 0 0 (.slice none 0 0))) := ⟨HN.out.drewN nq⟩
              have HB3 : Keep (Below w.heap.size w (wr.drewN nq)) := ⟨below_drewK HB.out nq⟩
              generalize wr.drewN nq = w3 at *
              clear HN HM HB ct cm
              go_wp2_with (first | (refine wpList_store_row rfl 26 (.tmp 4) (.tmp 41) rfl w.heap.size (env3 0 0 (.slice none 0 0)) rfl rfl 26 (env3 0 0 (.slice none 0 0)) HN3.out (env3_info _ _ _) rfl (env3_one _ _ _ _ _) ?_; refine Hid.out ?_))
              refine hid_in ?_
              have HNz := Keep.mk (HN3.out.setRow (env3 0 0 (.slice none 0 0)))
              have HBz := Keep.mk (below_setRow HB3.out (Nat.le_refl _) (env3 0 0 (.slice none 0 0)))
              go_wp2
              exact bodyPost_ret (v := .tuple #[.agg (env3 0 0 (.slice none 0 0)), .int .i64 5, .int .i64 (t : Int)]) (results_cell_row3 Tryd.results6 _ _ w.heap.size 26 _ (0, 0) _ _ _ rfl rfl rfl HNz.out Tryd.underlying26 rfl (env3_info _ _ _)) rfl ⟨none, 0, 0, [], 0, 0, by rw [HE.out] <;> rfl, HBz.out, .inl ⟨rfl, rfl⟩, by simp [Value.ownBlock], by rw [HE.out]; exact .inr ⟨show (5 : Int) ≠ 0 by decide, rfl, rfl, rfl⟩⟩
          · have h4' : ¬ (t : Int) < 4 := by omega
            have h4n : (4 : Int) ≤ (t : Int) := by omega
            have h4d : decide ((t : Int) < 4) = false := by simpa using h4'
            by_cases hm : okN x
            · have HA : Keep (∀ j, j < t + 1 → stepE b j = none) := ⟨next_none hall.out (by rw [HS.out, if_neg (fun h => h4 h.1), if_neg (fun h => h.2 hm)])⟩
              have HT : Keep (true = decide (okN x)) := ⟨(decide_eq_true hm).symm⟩
              clear HS hm hall
              go_wp2_with fail
              go_quiet (fail)
              have ct2 : (wr.drewN nq).cell? ⟨g, off + t, none⟩ = some (.int .u8 x) := ct
              have HN3 : Keep (Blk (wr.drewN nq) w.heap.size 26 (env3 0 0 (.slice none 0 0))) := ⟨HN.out.drewN nq⟩
              have HM3 : Keep (Blk (wr.drewN nq) gm 5 markA) := ⟨HM.out.drewN nq⟩
              have HB3 : Keep (Below w.heap.size w (wr.drewN nq)) := ⟨below_drewK HB.out nq⟩
              generalize wr.drewN nq = w3 at *
              clear HN HM HB ct
              go_wp2_with fail
              refine (rep_any x _ HT.out w3).mono ?_
              rintro e w4 ⟨rfl, hw4⟩
              rw [hw4]
              clear hw4 HT
              go_wp2
              go_roundw
              case rel => exact ⟨t + 1, by omega, by go_num, HA, HN3, HM3, HB3⟩
              case measure => simp only [intOf]; omega
            · have HE : Keep (openE key b = (1, (t : Int))) := ⟨openP_some Hk32.out (formE_some (headE_some (by omega) hall.out (by rw [HS.out, if_neg (fun h => h4 h.1), if_pos ⟨by omega, hm⟩])))⟩
              have HT : Keep (false = decide (okN x)) := ⟨(decide_eq_false hm).symm⟩
              clear HS hm hall
              go_wp2_with fail
              go_quiet (fail)
              have ct2 : (wr.drewN nq).cell? ⟨g, off + t, none⟩ = some (.int .u8 x) := ct
              have HN3 : Keep (Blk (wr.drewN nq) w.heap.size 26 (env3 0 0 (.slice none 0 0))) := ⟨HN.out.drewN nq⟩
              have HB3 : Keep (Below w.heap.size w (wr.drewN nq)) := ⟨below_drewK HB.out nq⟩
              generalize wr.drewN nq = w3 at *
              clear HN HM HB ct
              go_wp2_with fail
              refine (rep_any x _ HT.out w3).mono ?_
              rintro e w4 ⟨rfl, hw4⟩
              rw [hw4]
              clear hw4 HT
              go_wp2_with (first | (refine wpList_store_row rfl 26 (.tmp 4) (.tmp 55) rfl w.heap.size (env3 0 0 (.slice none 0 0)) rfl rfl 26 (env3 0 0 (.slice none 0 0)) HN3.out (env3_info _ _ _) rfl (env3_one _ _ _ _ _) ?_; refine Hid.out ?_))
              refine hid_in ?_
              have HNz := Keep.mk (HN3.out.setRow (env3 0 0 (.slice none 0 0)))
              have HBz := Keep.mk (below_setRow HB3.out (Nat.le_refl _) (env3 0 0 (.slice none 0 0)))
              go_wp2
              exact bodyPost_ret (v := .tuple #[.agg (env3 0 0 (.slice none 0 0)), .int .i64 1, .int .i64 (t : Int)]) (results_cell_row3 Tryd.results6 _ _ w.heap.size 26 _ (0, 0) _ _ _ rfl rfl rfl HNz.out Tryd.underlying26 rfl (env3_info _ _ _)) rfl ⟨none, 0, 0, [], 0, 0, by rw [HE.out] <;> rfl, HBz.out, .inl ⟨rfl, rfl⟩, by simp [Value.ownBlock], by rw [HE.out]; exact .inr ⟨show (1 : Int) ≠ 0 by decide, rfl, rfl, rfl⟩⟩
      · obtain rfl : t = 6 := by omega
        have Hh : Keep (headE b = none) := ⟨headE_none.2 fun i hi => hall.out i hi⟩
        clear hlt ht hall HM
        rw [show ((6 : Nat) : Int) = 6 from rfl]
        have HB0 := HB
        have Hn10 : Keep (n = b.length) := hn
        by_cases h10 : n < 10
        · have h10' : (n : Int) < 10 := by omega
          have HE : Keep (openE key b = (20, 6)) := ⟨openP_some Hk32.out (by rw [formE_none Hh.out]; unfold sizeE; rw [if_pos (by rw [← hn.out]; exact h10)])⟩
          clear h10 HB0 Hn10
          go_wp2_with (first | (refine wpList_store_row rfl 26 (.tmp 4) (.tmp 60) rfl w.heap.size (env3 0 0 (.slice none 0 0)) rfl rfl 26 (env3 0 0 (.slice none 0 0)) HN.out (env3_info _ _ _) rfl (env3_one _ _ _ _ _) ?_; refine Hid.out ?_))
          refine hid_in ?_
          have HNz := Keep.mk (HN.out.setRow (env3 0 0 (.slice none 0 0)))
          have HBz := Keep.mk (below_setRow HB.out (Nat.le_refl _) (env3 0 0 (.slice none 0 0)))
          go_wp2
          exact bodyPost_ret (v := .tuple #[.agg (env3 0 0 (.slice none 0 0)), .int .i64 20, .int .i64 6]) (results_cell_row3 Tryd.results6 _ _ w.heap.size 26 _ (0, 0) _ _ _ rfl rfl rfl HNz.out Tryd.underlying26 rfl (env3_info _ _ _)) rfl ⟨none, 0, 0, [], 0, 0, by rw [HE.out] <;> rfl, HBz.out, .inl ⟨rfl, rfl⟩, by simp [Value.ownBlock], by rw [HE.out]; exact .inr ⟨show (20 : Int) ≠ 0 by decide, rfl, rfl, rfl⟩⟩
        · obtain ⟨g, off, cap, e, hc⟩ := row_cells HRb.out (by have := hn.out; omega)
          injection e with e1 e2 e3
          subst e1 e3
          have Hc := Keep.mk hc
          have Hg : Keep (g < w.heap.size) := ⟨cell_lt (hc 0 (by have := hn.out; omega))⟩
          have HC : Keep (∀ wx, Below w.heap.size w wx → ∀ j, j < n → wx.cell? ⟨g, off + j, none⟩ = some (.int .u8 (b.getD j 0))) := ⟨fun wx hx j hj => by rw [hx.cell (p := ⟨g, off + j, none⟩) Hg.out]; exact Hc.out j (by rw [← hn.out]; exact hj)⟩
          have h10' : ¬ (n : Int) < 10 := by omega
          have h10'' : (10 : Int) ≤ (n : Int) := by omega
          have c6 := HC.out _ HB.out 6 (by omega)
          have c7 := HC.out _ HB.out 7 (by omega)
          have c8 := HC.out _ HB.out 8 (by omega)
          have c9 := HC.out _ HB.out 9 (by omega)
          have r6 := HBy.out.getD 6
          have r7 := HBy.out.getD 7
          have r8 := HBy.out.getD 8
          have r9 := HBy.out.getD 9
          have HL : Keep ((lenN b : Int) = b.getD 6 0 + 256 * b.getD 7 0 + 65536 * b.getD 8 0 + 16777216 * b.getD 9 0) := ⟨by unfold lenN; omega⟩
          obtain ⟨m, hm⟩ : ∃ m, Keep (m = lenN b) := ⟨_, ⟨rfl⟩⟩
          rw [← hm.out] at HL
          generalize b.getD 6 0 = x6 at *
          generalize b.getD 7 0 = x7 at *
          generalize b.getD 8 0 = x8 at *
          generalize b.getD 9 0 = x9 at *
          obtain ⟨r6a, r6b⟩ := r6
          obtain ⟨r7a, r7b⟩ := r7
          obtain ⟨r8a, r8b⟩ := r8
          obtain ⟨r9a, r9b⟩ := r9
          have HF : Keep (formE b = if 2097152 < m then some (22, 6) else if b.length < m + 42 then some (20, 10) else if m + 42 < b.length then some (23, (m : Int) + 42) else none) := ⟨by rw [formE_none Hh.out]; unfold sizeE; rw [if_neg (by rw [← hn.out]; exact h10), ← hm.out]⟩
          clear hc e2 h10
          go_wp2_with fail
          go_quiet (fail)
          rw [← HL.out]
          have HN3 : Keep (Blk (wr.drewN nq) w.heap.size 26 (env3 0 0 (.slice none 0 0))) := ⟨HN.out.drewN nq⟩
          have HB3 : Keep (Below w.heap.size w (wr.drewN nq)) := ⟨below_drewK HB.out nq⟩
          generalize wr.drewN nq = w3 at *
          clear HN HB HB0 c6 c7 c8 c9 r6a r6b r7a r7b r8a r8b r9a r9b HL
          by_cases h1 : 2097152 < m
          · have h1' : (2097152 : Int) < (m : Int) := by omega
            have HE : Keep (openE key b = (22, 6)) := ⟨openP_some Hk32.out (by rw [HF.out, if_pos h1])⟩
            clear HF h1
            go_wp2_with (first | (refine wpList_store_row rfl 26 (.tmp 4) (.tmp 86) rfl w.heap.size (env3 0 0 (.slice none 0 0)) rfl rfl 26 (env3 0 0 (.slice none 0 0)) HN3.out (env3_info _ _ _) rfl (env3_one _ _ _ _ _) ?_; refine Hid.out ?_))
            refine hid_in ?_
            have HNz := Keep.mk (HN3.out.setRow (env3 0 0 (.slice none 0 0)))
            have HBz := Keep.mk (below_setRow HB3.out (Nat.le_refl _) (env3 0 0 (.slice none 0 0)))
            go_wp2
            exact bodyPost_ret (v := .tuple #[.agg (env3 0 0 (.slice none 0 0)), .int .i64 22, .int .i64 6]) (results_cell_row3 Tryd.results6 _ _ w.heap.size 26 _ (0, 0) _ _ _ rfl rfl rfl HNz.out Tryd.underlying26 rfl (env3_info _ _ _)) rfl ⟨none, 0, 0, [], 0, 0, by rw [HE.out] <;> rfl, HBz.out, .inl ⟨rfl, rfl⟩, by simp [Value.ownBlock], by rw [HE.out]; exact .inr ⟨show (22 : Int) ≠ 0 by decide, rfl, rfl, rfl⟩⟩
          · have h1' : (m : Int) ≤ 2097152 := by omega
            by_cases h2 : n < m + 42
            · have h2' : (n : Int) < (m : Int) + 42 := by omega
              have HE : Keep (openE key b = (20, 10)) := ⟨openP_some Hk32.out (by rw [HF.out, if_neg h1, if_pos (by rw [← hn.out]; exact h2)])⟩
              clear HF h1 h2
              go_wp2_with (first | (refine wpList_store_row rfl 26 (.tmp 4) (.tmp 93) rfl w.heap.size (env3 0 0 (.slice none 0 0)) rfl rfl 26 (env3 0 0 (.slice none 0 0)) HN3.out (env3_info _ _ _) rfl (env3_one _ _ _ _ _) ?_; refine Hid.out ?_))
              refine hid_in ?_
              have HNz := Keep.mk (HN3.out.setRow (env3 0 0 (.slice none 0 0)))
              have HBz := Keep.mk (below_setRow HB3.out (Nat.le_refl _) (env3 0 0 (.slice none 0 0)))
              go_wp2
              exact bodyPost_ret (v := .tuple #[.agg (env3 0 0 (.slice none 0 0)), .int .i64 20, .int .i64 10]) (results_cell_row3 Tryd.results6 _ _ w.heap.size 26 _ (0, 0) _ _ _ rfl rfl rfl HNz.out Tryd.underlying26 rfl (env3_info _ _ _)) rfl ⟨none, 0, 0, [], 0, 0, by rw [HE.out] <;> rfl, HBz.out, .inl ⟨rfl, rfl⟩, by simp [Value.ownBlock], by rw [HE.out]; exact .inr ⟨show (20 : Int) ≠ 0 by decide, rfl, rfl, rfl⟩⟩
            · have h2' : ¬ (n : Int) < (m : Int) + 42 := by omega
              by_cases h3 : m + 42 < n
              · have h3' : (m : Int) + 42 < (n : Int) := by omega
                have HE : Keep (openE key b = (23, (m : Int) + 42)) := ⟨openP_some Hk32.out (by rw [HF.out, if_neg h1, if_neg (by rw [← hn.out]; exact h2), if_pos (by rw [← hn.out]; exact h3)])⟩
                clear HF h1 h2 h3
                go_wp2_with (first | (refine wpList_store_row rfl 26 (.tmp 4) (.tmp 100) rfl w.heap.size (env3 0 0 (.slice none 0 0)) rfl rfl 26 (env3 0 0 (.slice none 0 0)) HN3.out (env3_info _ _ _) rfl (env3_one _ _ _ _ _) ?_; refine Hid.out ?_))
                refine hid_in ?_
                have HNz := Keep.mk (HN3.out.setRow (env3 0 0 (.slice none 0 0)))
                have HBz := Keep.mk (below_setRow HB3.out (Nat.le_refl _) (env3 0 0 (.slice none 0 0)))
                go_wp2
                exact bodyPost_ret (v := .tuple #[.agg (env3 0 0 (.slice none 0 0)), .int .i64 23, .int .i64 ((m : Int) + 42)]) (results_cell_row3 Tryd.results6 _ _ w.heap.size 26 _ (0, 0) _ _ _ rfl rfl rfl HNz.out Tryd.underlying26 rfl (env3_info _ _ _)) rfl ⟨none, 0, 0, [], 0, 0, by rw [HE.out] <;> rfl, HBz.out, .inl ⟨rfl, rfl⟩, by simp [Value.ownBlock], by rw [HE.out]; exact .inr ⟨show (23 : Int) ≠ 0 by decide, rfl, rfl, rfl⟩⟩
              · have h3' : ¬ (m : Int) + 42 < (n : Int) := by omega
                have HFn : Keep (formE b = none) := ⟨by rw [HF.out, if_neg h1, if_neg (by rw [← hn.out]; exact h2), if_neg (by rw [← hn.out]; exact h3)]⟩
                have Hlen : Keep (b.length = m + 42 ∧ m ≤ 2097152) := ⟨by rw [← hn.out]; omega, by omega⟩
                clear HF h1 h2 h3 h10' h10'' Hn10
                obtain ⟨E, hE⟩ : ∃ E, Keep (E = m + 10) := ⟨_, ⟨rfl⟩⟩
                have hEi : ((m : Int) + 10) = (E : Int) := by have := hE.out; omega
                obtain ⟨vq, hsq, hrq⟩ := sub_any _ b w HRb.out E (by rw [Hlen.out.1, hE.out]; omega)
                have Hsq := Keep.mk hsq
                have Hrq := Keep.mk hrq
                clear hsq hrq
                go_wp2_with (first | (refine wpList_sliceH rfl (.tmp 104) (.tmp 106) rfl (.slice (some ⟨g, off, none⟩) n bc) (.int .i64 (E : Int)) vq rfl rfl Hsq.out ?_; refine Hid.out ?_))
                refine hid_in ?_
                go_wp2_with fail
                refine (refMac_any _ vq key (b.take E) w3 (HRk.out.below HB3.out) (Hrq.out _ (HRb.out.below HB3.out)) HKl.out (by rw [List.length_take]; have h1 := hE.out; have h2 := Hlen.out.2; omega)).mono ?_
                rintro e w4 ⟨rfl, hb4⟩
                have HB4 := Keep.mk (HB3.out.trans (hb4.mono HB3.out.size))
                have HN4 := Keep.mk (HN3.out.below hb4 HN3.out.lt)
                clear hb4 HB3 HN3 Hsq Hrq
                obtain ⟨c, hcc⟩ : ∃ c, Keep (c = macP key (b.take E)) := ⟨_, ⟨rfl⟩⟩
                rw [← hcc.out]
                obtain ⟨ca, Hca⟩ : ∃ ca, Keep (ca = bytesA 32 c) := ⟨_, ⟨rfl⟩⟩
                have HIca : Keep ((Tryd.prog.info? 40).map (·.size) = some ca.size) := ⟨by rw [Hca.out]; exact Tryd.size40B _⟩
                have HZca : Keep ((bytesA 32 fun _ => 0).size = ca.size) := ⟨by rw [Hca.out]; exact bytesA_sizes _ _ _⟩
                have HOca : Keep (ca.all (·.oneCell') = true) := ⟨by rw [Hca.out]; exact bytesA_one _ _⟩
                rw [← Hca.out]
                go_wp2_with (first | (refine wpList_new rfl 40 rfl _ Tryd.new40 ?_; refine Hid.out ?_))
                refine hid_in ?_
                have HA5 := Keep.mk (Blk.new w4 40 (bytesA 32 fun _ => 0))
                have HN5 := Keep.mk (HN4.out.alloc (.cells (bytesA 32 fun _ => 0) 40))
                have HB5 := Keep.mk (HB4.out.alloc HB4.out.size (.cells (bytesA 32 fun _ => 0) 40))
                obtain ⟨g11, hg11⟩ : ∃ g11, Keep (g11 = w4.heap.size) := ⟨_, ⟨rfl⟩⟩
                have Hg11 : Keep (w.heap.size < g11) := ⟨by rw [hg11.out]; exact HN4.out.lt⟩
                rw [← hg11.out] at HA5 ⊢
                generalize w4.alloc (.cells (bytesA 32 fun _ => 0) 40) = w5 at *
                clear HN4 HB4 hg11
                go_wp2_with (first | (refine wpList_store_row rfl 40 (.tmp 11) (.tmp 108) rfl g11 ca rfl rfl 40 (bytesA 32 fun _ => 0) HA5.out HIca.out HZca.out HOca.out ?_; refine Hid.out ?_))
                refine hid_in ?_
                have HA6 := Keep.mk (HA5.out.setRow ca)
                have HN6 := Keep.mk (HN5.out.setRow_ne (show w.heap.size ≠ g11 by have := Hg11.out; omega) ca)
                have HB6 := Keep.mk (below_setRow HB5.out (show w.heap.size ≤ g11 by have := Hg11.out; omega) ca)
                generalize w5.setRow g11 ca = w6 at *
                rw [Hca.out] at HA6
                clear HA5 HN5 HB5 HIca HZca HOca
                go_wp2
                go_loopw [12] (fun i wr => ∃ t : Nat, t ≤ 32 ∧ i = .int .i64 t ∧ Keep (∀ j, j < t → b.getD (m + 10 + j) 0 = c j) ∧ Keep (Blk wr w.heap.size 26 (env3 0 0 (.slice none 0 0))) ∧ Keep (Blk wr g11 40 (bytesA 32 c)) ∧ Keep (Below w.heap.size w wr)) (fun i _ => 32 - (intOf i).toNat)
                case atStart => exact ⟨0, by omega, rfl, ⟨fun j h => by omega⟩, HN6, HA6, HB6⟩
                case round =>
                  clear HN6 HA6 HB6
                  obtain ⟨t, ht, rfl, hall, HN, HA, HB⟩ := hrel
                  by_cases hlt : t < 32
                  · have hlt' : (t : Int) < 32 := by omega
                    have hEt : (E : Int) + (t : Int) < (n : Int) := by have h1 := hE.out; have h2 := Hlen.out.1; have h3 := hn.out; omega
                    have ct := HC.out _ HB.out (E + t) (by omega)
                    have ca0 : wr.cell? ⟨g11, t, none⟩ = some (.int .u8 (c t)) := by rw [HA.out.cell, bytesA_get _ _ _ hlt]
                    have hget : b.getD (E + t) 0 = b.getD (m + 10 + t) 0 := by rw [hE.out]
                    rw [hget] at ct
                    have Hget := Keep.mk hget
                    clear hget
                    by_cases hx : b.getD (m + 10 + t) 0 = c t
                    · have HAl : Keep (∀ j, j < t + 1 → b.getD (m + 10 + j) 0 = c j) := ⟨fun j hj => by
                        by_cases e : j = t
                        · subst e; exact hx
                        · exact hall.out j (by omega)⟩
                      have hxb : (b.getD (m + 10 + t) 0 != c t) = false := by simpa using hx
                      clear hx hall Hget
                      generalize b.getD (m + 10 + t) 0 = x at *
                      generalize c t = y at *
                      go_wp2_with fail
                      go_quiet (fail)
                      go_wp2
                      go_roundw
                      case rel => exact ⟨t + 1, by omega, by go_num, HAl, ⟨HN.out.drewN nq⟩, ⟨HA.out.drewN nq⟩, ⟨below_drewK HB.out nq⟩⟩
                      case measure => simp only [intOf]; omega
                    · have HE : Keep (openE key b = (30, (E : Int))) := ⟨by
                        rw [openP_mac Hk32.out HFn.out, ← hm.out, if_neg (by unfold macE; rw [← hE.out, ← hcc.out, hE.out]; exact mac_not Hlen.out.1 hlt hx), hE.out]; rfl⟩
                      have hxb : (b.getD (m + 10 + t) 0 != c t) = true := by simpa using hx
                      clear hx hall Hget
                      generalize b.getD (m + 10 + t) 0 = x at *
                      generalize c t = y at *
                      go_wp2_with fail
                      go_quiet (fail)
                      have HN3 : Keep (Blk (wr.drewN nq) w.heap.size 26 (env3 0 0 (.slice none 0 0))) := ⟨HN.out.drewN nq⟩
                      have HB3 : Keep (Below w.heap.size w (wr.drewN nq)) := ⟨below_drewK HB.out nq⟩
                      generalize wr.drewN nq = w7 at *
                      clear HN HA HB ct ca0
                      go_wp2_with (first | (refine wpList_store_row rfl 26 (.tmp 4) (.tmp 124) rfl w.heap.size (env3 0 0 (.slice none 0 0)) rfl rfl 26 (env3 0 0 (.slice none 0 0)) HN3.out (env3_info _ _ _) rfl (env3_one _ _ _ _ _) ?_; refine Hid.out ?_))
                      refine hid_in ?_
                      have HNz := Keep.mk (HN3.out.setRow (env3 0 0 (.slice none 0 0)))
                      have HBz := Keep.mk (below_setRow HB3.out (Nat.le_refl _) (env3 0 0 (.slice none 0 0)))
                      go_wp2
                      exact bodyPost_ret (v := .tuple #[.agg (env3 0 0 (.slice none 0 0)), .int .i64 30, .int .i64 (E : Int)]) (results_cell_row3 Tryd.results6 _ _ w.heap.size 26 _ (0, 0) _ _ _ rfl rfl rfl HNz.out Tryd.underlying26 rfl (env3_info _ _ _)) rfl ⟨none, 0, 0, [], 0, 0, by rw [HE.out] <;> rfl, HBz.out, .inl ⟨rfl, rfl⟩, by simp [Value.ownBlock], by rw [HE.out]; exact .inr ⟨show (30 : Int) ≠ 0 by decide, rfl, rfl, rfl⟩⟩
                  · obtain rfl : t = 32 := by omega
                    have HE : Keep (openE key b = (0, 0)) := ⟨by
                      rw [openP_mac Hk32.out HFn.out, ← hm.out, if_pos (by unfold macE; rw [← hE.out, ← hcc.out, hE.out]; exact mac_all Hlen.out.1 hall.out)]⟩
                    clear hlt ht hall HA
                    rw [show ((32 : Nat) : Int) = 32 from rfl]
                    obtain ⟨vm, hvm, hrm⟩ := mid_any _ b w HRb.out 10 m (by have h1 := Hlen.out.1; omega)
                    rw [show ((10 : Nat) : Int) + (m : Int) = (E : Int) by omega] at hvm
                    have Hvm : Keep (∀ wx, (Instr.sliceAt 22 (.slice (some ⟨g, off, none⟩) n bc) (some (.int .i64 10)) (some (.int .i64 (E : Int))) none).run Tryd.prog wx = .ok vm wx) := ⟨hvm⟩
                    obtain ⟨q, hq⟩ : ∃ q, Keep (q = openB b) := ⟨_, ⟨rfl⟩⟩
                    have HRm : Keep (∀ wx, Below w.heap.size w wx → RowAt wx vm q) := ⟨fun wx hx => by rw [hq.out]; unfold openB; rw [← hm.out]; exact hrm _ (HRb.out.below hx)⟩
                    have Hql : Keep (([] : List Int).length + q.length ≤ 140737488355328) := ⟨by rw [hq.out]; unfold openB; rw [List.length_take, List.length_nil]; have := Hlen.out.2; rw [← hm.out]; omega⟩
                    clear hvm hrm
                    have HC4 : Keep (∀ wx, Below w.heap.size w wx → wx.cell? ⟨g, off + 4, none⟩ = some (.int .u8 (b.getD 4 0)) ∧ wx.cell? ⟨g, off + 5, none⟩ = some (.int .u8 (b.getD 5 0))) := ⟨fun wx hx => ⟨HC.out wx hx 4 (by have h1 := Hlen.out.1; have h2 := hn.out; omega), HC.out wx hx 5 (by have h1 := Hlen.out.1; have h2 := hn.out; omega)⟩⟩
                    obtain ⟨x4a, x4b⟩ := HBy.out.getD 4
                    obtain ⟨x5a, x5b⟩ := HBy.out.getD 5
                    obtain ⟨f4, hf4⟩ : ∃ f4, Keep (f4 = b.getD 4 0) := ⟨_, ⟨rfl⟩⟩
                    obtain ⟨f5, hf5⟩ : ∃ f5, Keep (f5 = b.getD 5 0) := ⟨_, ⟨rfl⟩⟩
                    rw [← hf4.out, ← hf5.out] at HC4
                    rw [← hf4.out] at x4a x4b
                    rw [← hf5.out] at x5a x5b
                    have hw4 : IntKind.i64.wrap f4 = f4 := by rw [IntKind.wrap_i64]; omega
                    have hw5 : IntKind.i64.wrap f5 = f5 := by rw [IntKind.wrap_i64]; omega
                    have hwE : IntKind.i64.wrap (E : Int) = (E : Int) := by rw [IntKind.wrap_i64]; omega
                    have hl5 : (5 : Int) < (n : Int) := by have h1 := Hlen.out.1; have h2 := hn.out; omega
                    have hl4 : (4 : Int) < (n : Int) := by omega
                    have hD0 : Below wr.heap.size wr wr.drew := (Below.refl _ _).drew
                    have HN9 := Keep.mk (HN.out.below hD0 HN.out.lt)
                    have HB9 := Keep.mk (HB.out.trans (hD0.mono HB.out.size))
                    go_wp2_with fail
                    refine wp_region_held_drew (S := fun wx => wx.cell? ⟨g, off + 4, none⟩ = some (.int .u8 f4) ∧ wx.cell? ⟨g, off + 5, none⟩ = some (.int .u8 f5)) (by kernel_rfl) (HC4.out _ HB9.out) (fun hHeld => ?_)
                    generalize wr.drew = w9 at *
                    clear hD0 HN HB
                    refine wpAnyH_take (i := 0) (oi := ⟨some 127, Op.move (Operand.tmp 1), 22, _, _, none⟩) (v := .slice (some ⟨g, off, none⟩) n bc) rfl (by kernel_rfl) (by kernel_rfl) (by kernel_rfl) (fun _ _ _ h => h) (Or.inl ⟨by rfl, fun w hS => by go_simp⟩) hHeld ?_
                    simp only [Act.put, List.setIfInBounds_toArray, List.set_cons_zero, List.set_cons_succ]
                    refine wpAnyH_take (i := 1) (oi := ⟨some 128, Op.indexAddr 22 (Operand.tmp 127) (Operand.const (Value.int IntKind.i64 4)), 0, _, _, none⟩) (v := .pointer (some ⟨g, off + 4, none⟩)) rfl (by kernel_rfl) (by kernel_rfl) (by kernel_rfl) (fun _ _ _ h => h) (Or.inl ⟨by rfl, fun w hS => by go_simp⟩) hHeld ?_
                    simp only [Act.put, List.setIfInBounds_toArray, List.set_cons_zero, List.set_cons_succ]
                    refine wpAnyH_take (i := 2) (oi := ⟨some 129, Op.load 5 (Operand.tmp 128), 5, _, _, none⟩) (v := .int .u8 f4) rfl (by kernel_rfl) (by kernel_rfl) (by kernel_rfl) (fun _ _ _ h => h) (Or.inl ⟨by rfl, fun w hS => by obtain ⟨h1, h2⟩ := hS; go_simp⟩) hHeld ?_
                    simp only [Act.put, List.setIfInBounds_toArray, List.set_cons_zero, List.set_cons_succ]
                    refine wpAnyH_take (i := 3) (oi := ⟨some 130, Op.convert 5 3 (Operand.tmp 129), 3, _, _, none⟩) (v := .int .i64 f4) rfl (by kernel_rfl) (by kernel_rfl) (by kernel_rfl) (fun _ _ _ h => h) (Or.inl ⟨by rfl, fun w hS => by go_simp⟩) hHeld ?_
                    simp only [Act.put, List.setIfInBounds_toArray, List.set_cons_zero, List.set_cons_succ]
                    refine wpAnyH_take (i := 4) (oi := ⟨some 131, Op.move (Operand.tmp 1), 22, _, _, none⟩) (v := .slice (some ⟨g, off, none⟩) n bc) rfl (by kernel_rfl) (by kernel_rfl) (by kernel_rfl) (fun _ _ _ h => h) (Or.inl ⟨by rfl, fun w hS => by go_simp⟩) hHeld ?_
                    simp only [Act.put, List.setIfInBounds_toArray, List.set_cons_zero, List.set_cons_succ]
                    refine wpAnyH_take (i := 5) (oi := ⟨some 132, Op.indexAddr 22 (Operand.tmp 131) (Operand.const (Value.int IntKind.i64 5)), 0, _, _, none⟩) (v := .pointer (some ⟨g, off + 5, none⟩)) rfl (by kernel_rfl) (by kernel_rfl) (by kernel_rfl) (fun _ _ _ h => h) (Or.inl ⟨by rfl, fun w hS => by go_simp⟩) hHeld ?_
                    simp only [Act.put, List.setIfInBounds_toArray, List.set_cons_zero, List.set_cons_succ]
                    refine wpAnyH_take (i := 6) (oi := ⟨some 133, Op.load 5 (Operand.tmp 132), 5, _, _, none⟩) (v := .int .u8 f5) rfl (by kernel_rfl) (by kernel_rfl) (by kernel_rfl) (fun _ _ _ h => h) (Or.inl ⟨by rfl, fun w hS => by obtain ⟨h1, h2⟩ := hS; go_simp⟩) hHeld ?_
                    simp only [Act.put, List.setIfInBounds_toArray, List.set_cons_zero, List.set_cons_succ]
                    refine wpAnyH_take (i := 7) (oi := ⟨some 134, Op.convert 5 3 (Operand.tmp 133), 3, _, _, none⟩) (v := .int .i64 f5) rfl (by kernel_rfl) (by kernel_rfl) (by kernel_rfl) (fun _ _ _ h => h) (Or.inl ⟨by rfl, fun w hS => by go_simp⟩) hHeld ?_
                    simp only [Act.put, List.setIfInBounds_toArray, List.set_cons_zero, List.set_cons_succ]
                    refine wpAnyH_take (i := 9) (oi := ⟨some 136, Op.move (Operand.tmp 1), 22, _, _, none⟩) (v := .slice (some ⟨g, off, none⟩) n bc) rfl (by kernel_rfl) (by kernel_rfl) (by kernel_rfl) (fun _ _ _ h => h) (Or.inl ⟨by rfl, fun w hS => by go_simp⟩) hHeld ?_
                    simp only [Act.put, List.setIfInBounds_toArray, List.set_cons_zero, List.set_cons_succ]
                    refine wpAnyH_take (i := 10) (oi := ⟨some 137, Op.move (Operand.tmp 10), 3, _, _, none⟩) (v := .int .i64 (m : Int)) rfl (by kernel_rfl) (by kernel_rfl) (by kernel_rfl) (fun _ _ _ h => h) (Or.inl ⟨by rfl, fun w hS => by go_simp⟩) hHeld ?_
                    simp only [Act.put, List.setIfInBounds_toArray, List.set_cons_zero, List.set_cons_succ]
                    refine wpAnyH_take (i := 11) (oi := ⟨some 138, Op.binOp BinOp.add 3 (Operand.tmp 137) (Operand.const (Value.int IntKind.i64 10)) 3, 3, _, _, none⟩) (v := .int .i64 (E : Int)) rfl (by kernel_rfl) (by kernel_rfl) (by kernel_rfl) (fun _ _ _ h => h) (Or.inl ⟨by rfl, fun w hS => by go_simp⟩) hHeld ?_
                    simp only [Act.put, List.setIfInBounds_toArray, List.set_cons_zero, List.set_cons_succ]
                    refine wpAnyH_take (i := 12) (oi := ⟨some 139, Op.slice 22 (Operand.tmp 136) (some (Operand.const (Value.int IntKind.i64 10))) (some (Operand.tmp 138)) none, 22, _, _, none⟩) (v := vm) rfl (by kernel_rfl) (by kernel_rfl) (by kernel_rfl) (fun _ _ _ h => h) (yieldsIf_slice2 (by rfl) 22 (Operand.tmp 136) (Operand.const (Value.int IntKind.i64 10)) (Operand.tmp 138) rfl _ _ _ _ rfl rfl rfl Hvm.out) hHeld ?_
                    simp only [Act.put, List.setIfInBounds_toArray, List.set_cons_zero, List.set_cons_succ]
                    refine wpAnyH_ready (rs := [8]) (by kernel_rfl) (by simp) ?_
                    refine AllReadyH.cons (o := ⟨some 135, Op.buildSlice 22 0 #[], 22, _, _, none⟩) rfl (fun K hK => ?_) AllReadyH.nil
                    rw [if_pos (by rfl)]
                    refine wp_bs 22 0 #[] rfl #[] (by simp) (.slice (some ⟨w9.heap.size, 0, none⟩) 0 0) (w9.alloc (.cells #[] 5)) (Tryd.bs0 _) ?_
                    have hOe := own_empty (w9.alloc (.cells #[] 5)) w9.heap.size (Blk.new w9 5 #[])
                    have hB10 := HB9.out.alloc HB9.out.size (.cells #[] 5)
                    have hN10 := HN9.out.alloc (.cells #[] 5)
                    have hge : w.heap.size < w9.heap.size := HN9.out.lt
                    refine hK.out _ _ (HC4.out _ hB10) fun hHeld1 => ?_
                    clear hK
                    simp only [Act.put, List.setIfInBounds_toArray, List.set_cons_zero, List.set_cons_succ]
                    generalize w9.alloc (.cells #[] 5) = w10 at *
                    obtain ⟨ge, hge2⟩ : ∃ ge, Keep (ge = w9.heap.size) := ⟨_, ⟨rfl⟩⟩
                    rw [← hge2.out] at hOe hge ⊢
                    refine wpAnyH_ready (rs := [13]) (by kernel_rfl) (by simp) ?_
                    refine AllReadyH.cons (o := ⟨some 140, Op.call { callee := Callee.builtin Builtin.append, args := #[Operand.tmp 135, Operand.tmp 139], argTypes := #[22, 22] }, 22, _, _, none⟩) rfl (fun K hK => ?_) AllReadyH.nil
                    rw [if_pos (by rfl)]
                    refine wp_app (.tmp 135) (.tmp 139) rfl (.slice (some ⟨ge, 0, none⟩) 0 0) vm [] q rfl rfl hOe (HRm.out _ hB10) Hql.out ?_
                    intro va w11 hp
                    rw [List.nil_append] at hp
                    have hB11 : Below w.heap.size w w11 := hB10.trans ((grow_free (B := w.heap.size) ⟨ge, rfl, Nat.le_of_lt hge⟩ hB10.size hp).2)
                    obtain ⟨kf, hkf, hkw⟩ := (grow_free (B := w.heap.size) ⟨ge, rfl, Nat.le_of_lt hge⟩ hB10.size hp).1
                    have HF := Keep.mk (And.intro hkf hkw)
                    clear hkf hkw
                    have hN11 := hp.grown.blk hN10 (hOe.ne hN10 (by decide))
                    have hO := hp.1.tail
                    obtain ⟨ta, tn, tc, rfl⟩ := hO.sl
                    have HFr : Keep (∀ k, (Value.slice ta tn tc).ownBlock = some k → w.heap.size ≤ k) := ⟨fun k hk => by have h1 := HF.out.1; rw [h1] at hk; injection hk with hk; have := HF.out.2; omega⟩
                    clear HF
                    refine hK.out _ _ (HC4.out _ hB11) fun hHeld2 => ?_
                    clear hK hp
                    simp only [Act.put, List.setIfInBounds_toArray, List.set_cons_zero, List.set_cons_succ]
                    refine wpAnyH_take (i := 14) (oi := ⟨some 141, Op.build 26 #[(0, Operand.tmp 130), (1, Operand.tmp 134), (2, Operand.tmp 140)], 26, _, _, none⟩) (v := .agg (env3 f4 f5 (.slice ta tn tc))) rfl (by kernel_rfl) (by kernel_rfl) (by kernel_rfl) (fun _ _ _ h => h) (Or.inl ⟨by rfl, fun w hS => by unfold env3; go_simp⟩) hHeld2 ?_
                    simp only [Act.put, List.setIfInBounds_toArray, List.set_cons_zero, List.set_cons_succ]
                    refine wpAnyH_ready (rs := [15]) (by kernel_rfl) (by simp) ?_
                    refine AllReadyH.cons (o := ⟨none, Op.store 26 (Operand.tmp 4) (Operand.tmp 141), 0, _, _, none⟩) rfl (fun K hK => ?_) AllReadyH.nil
                    rw [if_pos (by rfl)]
                    refine wp_store_row 26 (.tmp 4) (.tmp 141) rfl w.heap.size (env3 f4 f5 (.slice ta tn tc)) rfl rfl 26 (env3 0 0 (.slice none 0 0)) hN11 (env3_info _ _ _) rfl (env3_one _ _ _ _ _) ?_
                    have HNz := Keep.mk (hN11.setRow (env3 f4 f5 (.slice ta tn tc)))
                    have HBz := Keep.mk (below_setRow hB11 (Nat.le_refl _) (env3 f4 f5 (.slice ta tn tc)))
                    have HOz : Keep (OwnT (w11.setRow w.heap.size (env3 f4 f5 (.slice ta tn tc))) (.slice ta tn tc) q) := ⟨hO.grown (Grown.setRow (S := fun k => k = w.heap.size) _ _ _ fun _ => rfl) fun k hk e => (hO.ne hN11 (by decide)) (by rw [hk, e])⟩
                    refine hK.out _ _ (HC4.out _ HBz.out) fun hHeld3 => ?_
                    clear hK
                    simp only [Act.put]
                    refine wpAnyH_take (i := 16) (oi := ⟨some 5, Op.assign (Operand.const (Value.int IntKind.i64 0)), 27, _, _, none⟩) (v := .int .i64 0) rfl (by kernel_rfl) (by kernel_rfl) (by kernel_rfl) (fun _ _ _ h => h) (Or.inl ⟨by rfl, fun w hS => by go_simp⟩) hHeld3 ?_
                    simp only [Act.put, List.setIfInBounds_toArray, List.set_cons_zero, List.set_cons_succ]
                    refine wpAnyH_take (i := 17) (oi := ⟨some 6, Op.assign (Operand.const (Value.int IntKind.i64 0)), 3, _, _, none⟩) (v := .int .i64 0) rfl (by kernel_rfl) (by kernel_rfl) (by kernel_rfl) (fun _ _ _ h => h) (Or.inl ⟨by rfl, fun w hS => by go_simp⟩) hHeld3 ?_
                    simp only [Act.put, List.setIfInBounds_toArray, List.set_cons_zero, List.set_cons_succ]
                    refine wpAnyH_done (by kernel_rfl) ?_ _
                    go_wp2
                    exact bodyPost_ret (v := .tuple #[.agg (env3 f4 f5 (.slice ta tn tc)), .int .i64 0, .int .i64 0]) (results_cell_row3 Tryd.results6 _ _ w.heap.size 26 _ (0, 0) _ _ _ rfl rfl rfl HNz.out Tryd.underlying26 rfl (env3_info _ _ _)) rfl ⟨ta, tn, tc, q, f4, f5, by rw [HE.out], HBz.out, HOz.out, HFr.out, .inl ⟨by rw [HE.out], hf4.out, hf5.out, hq.out⟩⟩
  · have hk32' : ((key.length : Int) == 32) = false := by simp; omega
    have hkI : ¬ (key.length : Int) = 32 := by omega
    have HE : Keep (openE key b = (1, -1)) := ⟨by unfold openE; rw [if_pos hk32]⟩
    clear hk32
    go_enter Tryd.func6, Tryd.ntmps6
    go_wp2_with (first | (refine wpList_new rfl 26 rfl _ Tryd.new26 ?_; refine Hid.out ?_))
    refine hid_in ?_
    generalize w.alloc (.cells #[.int .i64 0, .int .i64 0, .slice none 0 0] 26) = w1 at *
    go_wp2_with (first | (refine wpList_store_row rfl 26 (.tmp 4) (.tmp 16) rfl w.heap.size (env3 0 0 (.slice none 0 0)) rfl rfl 26 (env3 0 0 (.slice none 0 0)) HN0.out (env3_info _ _ _) rfl (env3_one _ _ _ _ _) ?_; refine Hid.out ?_))
    refine hid_in ?_
    have HNz := Keep.mk (HN0.out.setRow (env3 0 0 (.slice none 0 0)))
    have HBz := Keep.mk (below_setRow HB0.out (Nat.le_refl _) (env3 0 0 (.slice none 0 0)))
    go_wp2
    exact bodyPost_ret (v := .tuple #[.agg (env3 0 0 (.slice none 0 0)), .int .i64 1, .int .i64 (-1)]) (results_cell_row3 Tryd.results6 _ _ w.heap.size 26 _ (0, 0) _ _ _ rfl rfl rfl HNz.out Tryd.underlying26 rfl (env3_info _ _ _)) rfl ⟨none, 0, 0, [], 0, 0, by rw [HE.out] <;> rfl, HBz.out, .inl ⟨rfl, rfl⟩, by simp [Value.ownBlock], by rw [HE.out]; exact .inr ⟨show (1 : Int) ≠ 0 by decide, rfl, rfl, rfl⟩⟩
end Go.Proofs.YtpakaladpdoejaaDoor
