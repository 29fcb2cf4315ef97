import Derived.Test.YtbbhjgflaiacaaaRefF
import Derived.Test.YtbbhjgflaiacaaaFixed
namespace Go.Proofs.Ytbbhjgflaiacaaa
open Go.RowKit

/-- The slice v holds the rows that V tells, as bytes. -/
structure RowsAt (w : World) (v : Value) (m : Nat) (V : Nat → Value) (rows : Nat → List Int) : Prop where
  form : (∃ a c, v = .slice a 0 c ∧ m = 0) ∨ ∃ q o cap, v = .slice (some ⟨q, o, none⟩) m cap ∧ ∀ i, i < m → w.cell? ⟨q, o + i, none⟩ = some (V i)
  row : ∀ i, i < m → RowAt w (V i) (rows i)
theorem RowsAt.below {w w' : World} {v : Value} {m : Nat} {V : Nat → Value} {rows : Nat → List Int} (h : RowsAt w v m V rows) (hb : Below w.heap.size w w') : RowsAt w' v m V rows where
  form := by
    rcases h.form with h1 | ⟨q, o, cap, h1, h2⟩
    · exact .inl h1
    · exact .inr ⟨q, o, cap, h1, fun i hi => by rw [hb.cell (p := ⟨q, o + i, none⟩) (cell_lt (h2 i hi))]; exact h2 i hi⟩
  row i hi := (h.row i hi).below hb

theorem row_form {w : World} {v : Value} {l : List Int} (h : RowAt w v l) : ∃ a c, v = .slice a l.length c := by
  rcases h with ⟨rfl, rfl⟩ | ⟨a, c, rfl, rfl⟩ | ⟨b, off, cap, rfl, _⟩
  · exact ⟨_, _, rfl⟩
  · exact ⟨_, _, rfl⟩
  · exact ⟨_, _, rfl⟩
theorem rows_form {w : World} {v : Value} {m : Nat} {V : Nat → Value} {rows : Nat → List Int} (h : RowsAt w v m V rows) : ∃ a c, v = .slice a m c := by
  rcases h.form with ⟨a, c, rfl, rfl⟩ | ⟨q, o, cap, rfl, _⟩
  · exact ⟨_, _, rfl⟩
  · exact ⟨_, _, rfl⟩

/-- What Beyond tells. -/
def BeyPost (n : Nat) (w : World) (e : Ending) (w' : World) : Prop := ∃ bb, e = .returned (.bool bb) ∧ (bb = false → n ≤ 2147483647) ∧ w' = w

set_option maxHeartbeats 1000000 in
theorem beyond_any (v : Value) (m : Nat) (V : Nat → Value) (rows : Nat → List Int) (w : World) (hr : RowsAt w v m V rows) (hm : (m : Int) ≤ 9223372036854775807) (hrl : ∀ i, i < m → ((rows i).length : Int) ≤ 9223372036854775807) :
    Calls Try.prog 10 #[v] w (BeyPost (concat rows m).length w) := by
  have HR : Keep (RowsAt w v m V rows) := ⟨hr⟩
  have HL : Keep (∀ i, i < m → ((rows i).length : Int) ≤ 9223372036854775807) := ⟨hrl⟩
  obtain ⟨pa, pc, rfl⟩ := rows_form hr
  clear hr hrl
  go_enter Try.func10, Try.ntmps10
  go_wp2
  go_loop [3, 4] (fun lf i => ∃ t : Nat, t ≤ m ∧ i = .int .i64 (t : Int) ∧ lf = .int .i64 (2147483647 - ((concat rows t).length : Int)) ∧ ((concat rows t).length : Int) ≤ 9223372039002259454) (fun _ i => m - (intOf i).toNat)
  case atStart => exact ⟨0, by omega, rfl, by simp [concat], by simp [concat]⟩
  case round =>
    obtain ⟨t, ht, rfl, rfl, hb⟩ := hrel
    by_cases hlt : t < m
    · rcases HR.out.form with ⟨_, _, h1, h2⟩ | ⟨q, o, cap, h1, h2⟩
      · omega
      · injection h1 with h1 h3 h4
        subst h1
        have hc := h2 t hlt
        obtain ⟨a, c, hv⟩ := row_form (HR.out.row t hlt)
        rw [hv] at hc
        have hlt' : (t : Int) < (m : Int) := by omega
        have hll := HL.out t hlt
        by_cases hneg : (concat rows t).length ≤ 2147483647
        · have hz : (0 : Int) ≤ 2147483647 - ((concat rows t).length : Int) := by omega
          have hcc : Keep ((concat rows (t + 1)).length = (concat rows t).length + (rows t).length) := ⟨by simp [concat]⟩
          clear h2
          go_wp2
          refine ⟨⟨t + 1, by omega, by go_num, by rw [hcc.out]; congr 1; omega, by rw [hcc.out]; omega⟩, by simp [intOf]; omega⟩
        · have hz : ¬ (0 : Int) ≤ 2147483647 - ((concat rows t).length : Int) := by omega
          have hz2 : 2147483647 - ((concat rows t).length : Int) < 0 := by omega
          clear h2
          go_wp2
          go_ret
          exact ⟨_, rfl, fun h => by simp at h <;> omega, rfl⟩
    · obtain rfl : t = m := by omega
      have hlt' : ¬ ((t : Int) < (t : Int)) := by omega
      go_wp2
      go_ret
      exact ⟨_, rfl, fun h => by simp at h <;> omega, rfl⟩

theorem owns_row {w : World} {base : Nat} {v : Value} {n : Nat} {L : List Int} (h : w.ownsRow base 5 1 v n (bv L)) : RowAt w v L := by
  have hl : L.length = n := by have := h.1; rw [bv_len] at this; omega
  have h' := h
  obtain ⟨_, h2⟩ := h
  rcases h2 with ⟨rfl, h0⟩ | ⟨g, cap, cur, rfl, hg, hh, hc, _⟩
  · exact .inl ⟨rfl, List.eq_nil_of_length_eq_zero (by omega)⟩
  · refine .inr <| .inr ⟨g, 0, cap, by rw [hl], by omega, fun i hi => ?_⟩
    rw [Nat.zero_add, h'.cellAt i (by omega), bv_get L i hi]

set_option maxHeartbeats 1000000 in
theorem refOfAll_any (v : Value) (m : Nat) (V : Nat → Value) (rows : Nat → List Int) (w : World) (hr : RowsAt w v m V rows) (hm : (m : Int) ≤ 9223372036854775807) (hlen : (concat rows m).length ≤ 140737488351232) :
    Calls Try.prog 14 #[v] w fun e w' => e = .returned (.agg (bytesA 32 (shaP (concat rows m)))) ∧ Below w.heap.size w w' := by
  obtain ⟨pa, pc, rfl⟩ := rows_form hr
  have hbA := below_new w (.cells (bytesA 32 fun _ => 0) 23)
  have HR : Keep (RowsAt (w.alloc (.cells (bytesA 32 fun _ => 0) 23)) (.slice pa m pc) m V rows) := ⟨hr.below hbA⟩
  have hRA := Blk.new w 23 (bytesA 32 fun _ => 0)
  have hsA : (w.alloc (.cells (bytesA 32 fun _ => 0) 23)).heap.size = w.heap.size + 1 := by simp
  clear hr
  go_enter Try.func14, Try.ntmps14
  go_wp2_with (first | (refine wpList_new rfl 23 rfl _ Try.new23 ?_))
  have hown : ((w.alloc (.cells (bytesA 32 fun _ => 0) 23)).alloc (.cells #[] 5)).ownsRow (w.heap.size + 1) 5 1 (.slice (some ⟨w.heap.size + 1, 0, none⟩) 0 0) 0 (bv []) :=
    ⟨rfl, .inr ⟨w.heap.size + 1, 0, #[], rfl, Nat.le_refl _, by have h := heap_alloc_new (w.alloc (.cells (bytesA 32 fun _ => 0) 23)) (.cells #[] 5); rw [hsA] at h; exact h, Nat.le_refl _, by unfold maxLen; omega, rfl, rfl⟩⟩
  have hB : Below (w.heap.size + 1) (w.alloc (.cells (bytesA 32 fun _ => 0) 23)) ((w.alloc (.cells (bytesA 32 fun _ => 0) 23)).alloc (.cells #[] 5)) := (Below.refl _ _).alloc (by simp) _
  generalize (w.alloc (.cells (bytesA 32 fun _ => 0) 23)).alloc (.cells #[] 5) = w0 at *
  generalize w.alloc (.cells (bytesA 32 fun _ => 0) 23) = wA at *
  have HA : Keep (wA.heap.size = w.heap.size + 1) := ⟨hsA⟩
  clear hsA
  go_loopw [3, 4] (fun b i wr => ∃ t : Nat, t ≤ m ∧ i = .int .i64 (t : Int) ∧ wr.ownsRow (w.heap.size + 1) 5 1 b (concat rows t).length (bv (concat rows t)) ∧ Below (w.heap.size + 1) wA wr) (fun _ i _ => m - (intOf i).toNat)
  case atStart => exact ⟨0, by omega, rfl, hown, hB⟩
  case round =>
    clear hown hB
    obtain ⟨t, ht, rfl, hown, hB⟩ := hrel
    have hsz := hB.size
    rw [HA.out] at hsz
    by_cases hlt : t < m
    · rcases HR.out.form with ⟨_, _, h1, h2⟩ | ⟨q, o, cap, h1, h2⟩
      · omega
      · injection h1 with h1 h3 h4
        subst h1
        clear h3 h4
        have hcell := h2 t hlt
        have hc : wr.cell? ⟨q, o + t, none⟩ = some (V t) := by rw [hB.cell (p := ⟨q, o + t, none⟩) (by rw [← HA.out]; exact cell_lt hcell)]; exact hcell
        have HRow : Keep (RowAt wr (V t) (rows t)) := ⟨(HR.out.row t hlt).below (by rw [HA.out]; exact hB)⟩
        have hlt' : (t : Int) < (m : Int) := by omega
        have hcl := concat_le rows (t + 1) m hlt
        have hcc : Keep ((concat rows (t + 1)).length = (concat rows t).length + (rows t).length) := ⟨by simp [concat]⟩
        rw [hcc.out] at hcl
        have hblk := owns_block hown
        have HO : Keep (wr.ownsRow (w.heap.size + 1) 5 1 u3 (concat rows t).length (bv (concat rows t))) := ⟨hown⟩
        clear h2 hcell hown
        go_wp2_with (first | (at_builtin; refine wpList_app rfl (.tmp 12) (.tmp 16) rfl (w.heap.size + 1) u3 (V t) (concat rows t).length (bv (concat rows t)) (rows t) rfl rfl HO.out HRow.out (by omega) hsz ?_; intro v2 w2 hown2 hgr2; refine Hid.out ?_))
        refine hid_in ?_
        have hB2 : Below (w.heap.size + 1) wA w2 := hB.grown hgr2 hsz hblk
        have hLs : bv (concat rows t) ++ bv (rows t) = bv (concat rows (t + 1)) := by simp [bv, concat]
        rw [hLs, ← hcc.out] at hown2
        go_wp2
        go_roundw
        case rel => exact ⟨t + 1, by omega, by go_num, hown2, hB2⟩
        case measure => simp [intOf]; omega
    · obtain rfl : t = m := by omega
      have hlt' : ¬ ((t : Int) < (t : Int)) := by omega
      have HRow : Keep (RowAt wr u3 (concat rows t)) := ⟨owns_row hown⟩
      go_wp2_with fail
      refine (refOf_sha u3 (concat rows t) wr HRow.out hlen).mono ?_
      rintro e w5 ⟨rfl, hB5⟩
      have hr5 : Blk w5 w.heap.size 23 (bytesA 32 fun _ => 0) := (hRA.below hB (by omega)).below hB5 (by omega)
      have hB5' : Below w.heap.size w w5 := hbA.trans ((hB.mono (by omega)).trans (hB5.mono (by omega)))
      obtain ⟨c, hc⟩ : ∃ c, Keep (c = shaP (concat rows t)) := ⟨_, ⟨rfl⟩⟩
      rw [← hc.out]
      go_wp2_with (refine wpList_store_row rfl 23 (.tmp 2) (.tmp 19) rfl w.heap.size (bytesA 32 c) rfl rfl 23 (bytesA 32 fun _ => 0) hr5 (Try.size23B _) (bytesA_sizes _ _ _) (bytesA_one _ _) ?_)
      exact bodyPost_ret (v := .agg (bytesA 32 c)) (results_cell_row Try.results14 _ _ w.heap.size 23 _ (0, 0) _ rfl (hr5.setRow _) Try.underlying23 rfl (Try.size23B _)) rfl ⟨by rw [hc.out], below_setRow hB5' (Nat.le_refl _) _⟩
end Go.Proofs.Ytbbhjgflaiacaaa
