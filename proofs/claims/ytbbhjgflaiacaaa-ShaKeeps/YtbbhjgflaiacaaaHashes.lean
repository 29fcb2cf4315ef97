import Derived.Test.YtbbhjgflaiacaaaRefG
import Derived.ChangeKeysEq
namespace Go.Proofs.Ytbbhjgflaiacaaa
open Go.RowKit

set_option maxRecDepth 10000 in
set_option maxHeartbeats 1000000 in
theorem ofAll_none (pa : Option Addr) (pc : Nat) (w : World) :
    Calls Try.prog 13 #[.slice pa 0 pc] w fun e w' => e = .returned (.agg (bytesA 32 (shaP []))) ∧ Below w.heap.size w w' := by
  have hbA := below_new w (.cells (bytesA 32 fun _ => 0) 23)
  go_enter Try.func13, Try.ntmps13
  go_wp2_with (first | (refine wpList_new rfl 23 rfl _ Try.new23 ?_))
  refine (new_any _).mono ?_
  rintro e w1 ⟨rfl, rfl⟩
  simp only [World.size_alloc]
  have hG := Blk.new ((w.alloc (.cells (bytesA 32 fun _ => 0) 23)).alloc (.cells (wordsA 8 beginF) 58)) 66 (digA beginF (fun _ => 0) 0)
  have hR := ((Blk.new w 23 (bytesA 32 fun _ => 0)).alloc (.cells (wordsA 8 beginF) 58)).alloc (.cells (digA beginF (fun _ => 0) 0) 66)
  have hB : Below w.heap.size w (((w.alloc (.cells (bytesA 32 fun _ => 0) 23)).alloc (.cells (wordsA 8 beginF) 58)).alloc (.cells (digA beginF (fun _ => 0) 0) 66)) :=
    (((Below.refl _ _).alloc (Nat.le_refl _) _).alloc (by simp) _).alloc (by simp; omega) _
  simp only [World.size_alloc] at hG
  generalize (((w.alloc (.cells (bytesA 32 fun _ => 0) 23)).alloc (.cells (wordsA 8 beginF) 58)).alloc (.cells (digA beginF (fun _ => 0) 0) 66)) = w0 at *
  go_wp2_with fail
  refine wp_loop_rounds 1 ?_; rw [rounds_succ]
  go_wp2_with fail
  refine (sum_any (w.heap.size + 1 + 1) dg0 w0 hG (by decide)).mono ?_
  rintro e w5 ⟨rfl, hB5⟩
  have hr5 := hR.below hB5 hR.lt
  have hB5' := hB.trans (hB5.mono hB.size)
  obtain ⟨c, hc⟩ : ∃ c, Keep (c = sumF dg0) := ⟨_, ⟨rfl⟩⟩
  rw [← hc.out]
  go_wp2_with (refine wpList_store_row rfl 23 (.tmp 2) (.tmp 18) rfl w.heap.size (bytesA 32 c) rfl rfl 23 (bytesA 32 fun _ => 0) hr5 (Try.size23B _) (bytesA_sizes _ _ _) (bytesA_one _ _) ?_)
  exact bodyPost_ret (v := .agg (bytesA 32 c)) (results_cell_row Try.results13 _ _ w.heap.size 23 _ (0, 0) _ rfl (hr5.setRow _) Try.underlying23 rfl (Try.size23B _)) rfl ⟨by rw [hc.out]; rfl, below_setRow hB5' (Nat.le_refl _) _⟩

theorem ofAll_rows (v : Value) (m : Nat) (V : Nat → Value) (rows : Nat → List Int) (w : World) (hr : RowsAt w v m V rows) (hm : (m : Int) ≤ 9223372036854775807) (hlen : (concat rows m).length ≤ 140737488351232) :
    Calls Try.prog 13 #[v] w fun e w' => e = .returned (.agg (bytesA 32 (shaP (concat rows m)))) ∧ Below w.heap.size w w' := by
  rcases hr.form with ⟨a, c, rfl, rfl⟩ | ⟨q, o, cap, rfl, h2⟩
  · exact ofAll_none a c w
  · exact ofAll_any q o m cap V rows w h2 hr.row hm (by omega)

theorem Try.cells5 : Try.prog.cellsOf 5 = 1 := by kernel_rfl
theorem Try.isAgg5 (w : World) : (isAgg 5).run Try.prog w = .ok false w := by kernel_rfl
theorem run_part5 (c : Nat → Int) (i : Nat) (hi : i < 32) (w : World) : (part 5 (bytesA 32 c) i).run Try.prog w = .ok (.int .u8 (c i)) w := by
  unfold part
  rw [Sem.run_bind, Try.isAgg5]
  simp [Result.andThen, bytesA_get 32 c i hi]
theorem run_items (c : Nat → Int) (d : Nat) (w : World) : ∀ is : List Nat, (∀ i ∈ is, i < 32) → (Op.eqItems (d + 1) 5 1 (bytesA 32 c) (bytesA 32 c) is).run Try.prog w = .ok true w
  | [], _ => by simp [Op.eqItems]
  | i :: is, h => by
    have hi := h i (by simp)
    have ih := run_items c d w is (fun j hj => h j (by simp [hj]))
    simp only [Op.eqItems, Sem.run_bind, Nat.mul_one, run_part5 c i hi, Result.andThen_ok]
    rw [run_equalIn_int (P := Try.prog) (w := w) d 5 .u8 .u8 (c i) (c i) Try.underlying5]
    simp [Result.andThen_ok, ih]
theorem run_equal_arr (c : Nat → Int) (w : World) : (Op.equalIn 10000 23 (.agg (bytesA 32 c)) (.agg (bytesA 32 c))).run Try.prog w = .ok true w := by
  obtain ⟨i, hi, _⟩ := Option.map_eq_some_iff.1 Try.size5
  rw [run_equalIn_array (P := Try.prog) w 9999 _ _ Try.underlying23 hi, Try.cells5]
  exact run_items c 9998 w _ (fun j hj => List.mem_range.1 hj)
/-- Two hashes that are the same. -/
theorem run_eql_arr (c : Nat → Int) (w : World) : (binOp .eql 23 (.agg (bytesA 32 c)) (.agg (bytesA 32 c))).run Try.prog w = .ok (.bool true) w := by
  rw [run_eql_struct, run_equal_arr]; rfl
theorem run_neq_arr (c : Nat → Int) (w : World) : (binOp .neq 23 (.agg (bytesA 32 c)) (.agg (bytesA 32 c))).run Try.prog w = .ok (.bool false) w := by
  rw [run_neq_struct, run_equal_arr]; rfl

set_option maxHeartbeats 2000000 in
theorem hashes_any (v : Value) (m : Nat) (V : Nat → Value) (rows : Nat → List Int) (w : World) (hr : RowsAt w v m V rows) (hm : (m : Int) ≤ 9223372036854775807) (hrl : ∀ i, i < m → ((rows i).length : Int) ≤ 9223372036854775807) :
    Calls Try.prog 4 #[v] w fun e w' => e = .returned (.bool true) ∧ Below w.heap.size w w' := by
  have HR : Keep (RowsAt w v m V rows) := ⟨hr⟩
  have HL : Keep (∀ i, i < m → ((rows i).length : Int) ≤ 9223372036854775807) := ⟨hrl⟩
  obtain ⟨pa, pc, rfl⟩ := rows_form hr
  clear hr hrl
  go_enter Try.func4, Try.ntmps4
  go_wp2_with fail
  refine (beyond_any _ m V rows w HR.out hm HL.out).mono ?_
  rintro e w1 ⟨bb, rfl, hbb, rfl⟩
  have HBB : Keep (bb = false → (concat rows m).length ≤ 2147483647) := ⟨hbb⟩
  clear hbb
  cases bb with
  | true =>
    go_wp2_with (go_at_call 9; refine (fixed_any _).mono ?_; rintro e w' ⟨rfl, hb⟩)
    go_ret
    exact ⟨rfl, hb⟩
  | false =>
    have htot := HBB.out rfl
    go_wp2
    go_loopw [3] (fun i wr => ∃ t : Nat, t ≤ m ∧ i = .int .i64 (t : Int) ∧ Below w1.heap.size w1 wr) (fun i _ => m - (intOf i).toNat)
    case atStart => exact ⟨0, by omega, rfl, Below.refl _ _⟩
    case round =>
      obtain ⟨t, ht, rfl, hB⟩ := hrel
      by_cases hlt : t < m
      · rcases HR.out.form with ⟨_, _, h1, h2⟩ | ⟨q, o, cap, h1, h2⟩
        · omega
        · injection h1 with h1 h3 h4
          subst h1
          clear h3 h4
          have hcell := h2 t hlt
          have hqlt := cell_lt hcell
          have hc : wr.cell? ⟨q, o + t, none⟩ = some (V t) := by rw [hB.cell (p := ⟨q, o + t, none⟩) hqlt]; exact hcell
          have hrow := HR.out.row t hlt
          have HRow : ∀ wx, Below w1.heap.size w1 wx → RowAt wx (V t) (rows t) := fun wx hx => hrow.below hx
          have HRo : Keep (∀ wx, Below w1.heap.size w1 wx → RowAt wx (V t) (rows t)) := ⟨HRow⟩
          have hlt' : (t : Int) < (m : Int) := by omega
          have hcl := concat_le rows (t + 1) m hlt
          have hcc : Keep ((concat rows (t + 1)).length = (concat rows t).length + (rows t).length) := ⟨by simp [concat]⟩
          rw [hcc.out] at hcl
          have hneq := run_neq_arr (shaP (rows t))
          have HCe : Keep (w1.cell? ⟨q, o + t, none⟩ = some (V t)) := ⟨hcell⟩
          clear h2 hcell hrow HRow
          go_wp2
          go_region_held3 (fun w' => w'.cell? ⟨q, o + t, none⟩ = some (V t) ∧ Below w1.heap.size w1 w') ((first | exact ⟨hc, hB.drew⟩ | exact ⟨(by rw [(hB.drew.trans (hb1.mono hB.size)).cell (p := ⟨q, o + t, none⟩) hqlt]; exact HCe.out), hB.drew.trans (hb1.mono hB.size)⟩ | exact ⟨(by rw [((hB.drew.trans (hb1.mono hB.size)).trans (hb2.mono (hB.drew.trans (hb1.mono hB.size)).size)).cell (p := ⟨q, o + t, none⟩) hqlt]; exact HCe.out), (hB.drew.trans (hb1.mono hB.size)).trans (hb2.mono (hB.drew.trans (hb1.mono hB.size)).size)⟩)) (first | (go_at_call 11; refine (of_any (V t) (rows t) _ (HRo.out _ hB.drew) (by omega)).mono ?_; rintro e w' ⟨rfl, hb1⟩) | (go_at_call 12; refine (refOf_sha (V t) (rows t) _ (HRo.out _ (hB.drew.trans (hb1.mono hB.size))) (by omega)).mono ?_; rintro e w' ⟨rfl, hb2⟩))
          have hBn : Below w1.heap.size w1 w' := (hB.drew.trans (hb1.mono hB.size)).trans (hb2.mono (hB.drew.trans (hb1.mono hB.size)).size)
          go_wp2
          go_roundw
          case rel => exact ⟨t + 1, by omega, by go_num, hBn⟩
          case measure => simp [intOf]; omega
      · obtain rfl : t = m := by omega
        have hlt' : ¬ ((t : Int) < (t : Int)) := by omega
        have heq := run_eql_arr (shaP (concat rows t))
        have heq0 := run_eql_arr (shaP [])
        go_wp2_with fail
        refine (ofAll_rows _ t V rows wr (HR.out.below hB) hm (by omega)).mono ?_
        rintro e w2 ⟨rfl, hb2⟩
        have hB2 := hB.trans (hb2.mono hB.size)
        go_wp2_with fail
        refine (refOfAll_any _ t V rows w2 (HR.out.below hB2) hm (by omega)).mono ?_
        rintro e w3 ⟨rfl, hb3⟩
        have hB3 := hB2.trans (hb3.mono hB2.size)
        go_wp2_with fail
        refine (ofAll_none none 0 w3).mono ?_
        rintro e w4 ⟨rfl, hb4⟩
        have hB4 := hB3.trans (hb4.mono hB3.size)
        go_wp2_with fail
        refine (refOf_sha (.slice none 0 0) [] w4 (.inl ⟨rfl, rfl⟩) (by decide)).mono ?_
        rintro e w5 ⟨rfl, hb5⟩
        have hB5 := hB4.trans (hb5.mono hB4.size)
        go_wp2_with fail
        refine (fixed_any w5).mono ?_
        rintro e w6 ⟨rfl, hb6⟩
        have hB6 := hB5.trans (hb6.mono hB5.size)
        go_wp2
        go_ret
        exact ⟨rfl, hB6⟩
end Go.Proofs.Ytbbhjgflaiacaaa
