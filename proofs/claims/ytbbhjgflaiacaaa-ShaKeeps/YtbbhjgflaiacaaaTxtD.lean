import Derived.Test.YtbbhjgflaiacaaaTxtC
import Derived.Test.YtbbhjgflaiacaaaStep
import Derived.Deep.RegionWith
namespace Go.Proofs.Ytbbhjgflaiacaaa
open Go.RowKit

theorem row_two (w : World) (a b : Int) : RowAt (w.alloc (.cells #[.int .u8 a, .int .u8 b] 5)) (.slice (some ⟨w.heap.size, 0, none⟩) 2 2) [a, b] := by
  refine .inr (.inr ⟨w.heap.size, 0, 2, rfl, by simp, fun i hi => ?_⟩)
  rw [Nat.zero_add, (Blk.new w 5 #[.int .u8 a, .int .u8 b]).cell]
  match i, hi with
  | 0, _ => rfl
  | 1, _ => rfl
theorem chr_even (c : Nat → Int) (t : Nat) : chr c (2 * t) = dgt (c t / 16) := by
  unfold chr; rw [if_pos (by omega), show 2 * t / 2 = t by omega]
theorem chr_odd (c : Nat → Int) (t : Nat) : chr c (2 * t + 1) = dgt (c t % 16) := by
  unfold chr; rw [if_neg (by omega), show (2 * t + 1) / 2 = t by omega]
theorem digit_dgt (k : Nat) (hk : k < 16) (w : World) :
    Calls Try.prog 47 #[.int .u8 (k : Int)] w fun e w' => e = .returned (.int .u8 (dgt k)) ∧ w' = w := by
  refine (digit_any k hk w).mono ?_
  rintro e w' ⟨rfl, rfl⟩
  refine ⟨?_, rfl⟩
  unfold dgt
  by_cases h : k < 10
  · rw [if_pos h, if_pos (by omega)]
  · rw [if_neg h, if_neg (by omega)]

set_option maxRecDepth 20000 in
set_option maxHeartbeats 2000000 in
theorem refPrint_any (c : Nat → Int) (hc : ∀ i, i < 32 → 0 ≤ c i ∧ c i < 256) (w : World) :
    Calls Try.prog 32 #[.agg (bytesA 32 c)] w fun e w' => e = .returned (.string (prS c)) ∧ Below w.heap.size w w' := by
  have HC : Keep (∀ i, i < 32 → 0 ≤ c i ∧ c i < 256) := ⟨hc⟩
  clear hc
  have hbA := below_new w (.cells (bytesA 32 c) 23)
  have hsA : (w.alloc (.cells (bytesA 32 c) 23)).heap.size = w.heap.size + 1 := by simp
  have hRA := Blk.new w 23 (bytesA 32 c)
  go_enter Try.func32, Try.ntmps32
  go_wp2_with (first | (refine wpList_boxA rfl 23 (.tmp 0) rfl (bytesA 32 c) rfl ?_))
  have hown : ((w.alloc (.cells (bytesA 32 c) 23)).alloc (.cells #[] 5)).ownsRow (w.heap.size + 1) 5 1 (.slice (some ⟨w.heap.size + 1, 0, none⟩) 0 0) 0 (bv []) :=
    ⟨rfl, .inr ⟨w.heap.size + 1, 0, #[], rfl, Nat.le_refl _, by have h := heap_alloc_new (w.alloc (.cells (bytesA 32 c) 23)) (.cells #[] 5); rw [hsA] at h; exact h, Nat.le_refl _, by unfold maxLen; omega, rfl, rfl⟩⟩
  have hB : Below (w.heap.size + 1) (w.alloc (.cells (bytesA 32 c) 23)) ((w.alloc (.cells (bytesA 32 c) 23)).alloc (.cells #[] 5)) := (Below.refl _ _).alloc (by simp) _
  generalize (w.alloc (.cells (bytesA 32 c) 23)).alloc (.cells #[] 5) = w0 at *
  generalize w.alloc (.cells (bytesA 32 c) 23) = wA at *
  have HA : Keep (wA.heap.size = w.heap.size + 1) := ⟨hsA⟩
  clear hsA
  go_loopw [3, 4] (fun b i wr => ∃ t : Nat, t ≤ 32 ∧ i = .int .i64 (t : Int) ∧ wr.ownsRow (w.heap.size + 1) 5 1 b (2 * t) (bv ((List.range (2 * t)).map (chr c))) ∧ Below (w.heap.size + 1) wA wr) (fun _ i _ => 32 - (intOf i).toNat)
  case atStart => exact ⟨0, by omega, rfl, hown, hB⟩
  case round =>
    clear hown hB
    obtain ⟨t, ht, rfl, hown, hB⟩ := hrel
    have hsz := hB.size
    rw [HA.out] at hsz
    by_cases hlt : t < 32
    · obtain ⟨y, hy⟩ : ∃ y : Nat, c t = y := ⟨(c t).toNat, by have := HC.out t hlt; omega⟩
      have hy2 : y < 256 := by have := HC.out t hlt; omega
      have hlt' : (t : Int) < 32 := by omega
      obtain ⟨u, hu⟩ : ∃ u, Keep (y / 16 = u) := ⟨_, ⟨rfl⟩⟩
      obtain ⟨v, hv⟩ : ∃ v, Keep (y % 16 = v) := ⟨_, ⟨rfl⟩⟩
      have u16 : u < 16 := by have := hu.out; omega
      have v16 : v < 16 := by have := hv.out; omega
      have a2 : (y : Int) / 16 = (u : Int) := by have := hu.out; omega
      have a4 : IntKind.u8.wrap (u : Int) = u := by rw [IntKind.wrap_u8]; omega
      have a5 : (y : Int).tmod 16 = (v : Int) := by rw [Int.tmod_eq_emod_of_nonneg (by omega)]; have := hv.out; omega
      have cc : wr.drew.cell? ⟨w.heap.size, t, none⟩ = some (.int .u8 (y : Int)) := by
        have h := hRA.below hB (by omega)
        have h2 : Blk wr.drew w.heap.size 23 (bytesA 32 c) := h
        rw [h2.cell, bytesA_get _ _ _ hlt, hy]
      have hszd : w.heap.size + 1 ≤ wr.drew.heap.size := hsz
      have HO : Keep ((wr.drew.alloc (.cells #[.int .u8 (dgt u), .int .u8 (dgt v)] 5)).ownsRow (w.heap.size + 1) 5 1 u3 (2 * t) (bv ((List.range (2 * t)).map (chr c)))) := ⟨World.ownsRow.alloc (w := wr.drew) hown _⟩
      have hblk := owns_block hown
      have HR2 := row_two wr.drew (dgt u) (dgt v)
      have hsz2 : w.heap.size + 1 ≤ (wr.drew.alloc (.cells #[.int .u8 (dgt u), .int .u8 (dgt v)] 5)).heap.size := by simp; omega
      have cc2 : (wr.drew.alloc (.cells #[.int .u8 (dgt u), .int .u8 (dgt v)] 5)).cell? ⟨w.heap.size, t, none⟩ = some (.int .u8 (y : Int)) := by
        have h := hRA.below hB (by omega)
        have h2 : Blk wr.drew w.heap.size 23 (bytesA 32 c) := h
        rw [(h2.alloc _).cell, bytesA_get _ _ _ hlt, hy]
      clear hown
      go_wp2
      go_region_held3 (fun w' => w'.cell? ⟨w.heap.size, t, none⟩ = some (.int .u8 (y : Int)))
        ((first | exact cc | exact cc2 | exact cc3))
        (first | (go_at_call_of 47 (Value.int .u8 (u : Int)); refine (digit_dgt u u16 _).mono ?_; rintro e w' ⟨rfl, rfl⟩) | (go_at_call_of 47 (Value.int .u8 (v : Int)); refine (digit_dgt v v16 _).mono ?_; rintro e w' ⟨rfl, rfl⟩)
               | (rw [if_pos (by rfl)]; refine wp_app (.tmp 10) (.tmp 21) rfl (w.heap.size + 1) u3 (.slice (some ⟨wr.drew.heap.size, 0, none⟩) 2 2) (2 * t) _ [dgt u, dgt v] rfl rfl HO.out HR2 (by simp; omega) hsz2 ?_; intro v5 w5 hown5 hgr5; have cc3 : w5.cell? ⟨w.heap.size, t, none⟩ = some (.int .u8 (y : Int)) := by (rw [World.cell?_of_block (hgr5.block w.heap.size (by simp; omega) (fun e => by have := hblk _ e.symm; omega))]; exact cc2)))
      have hB5 : Below (w.heap.size + 1) wA w5 := (Below.alloc (w := wr.drew) hB.drew hszd _).grown hgr5 hsz2 hblk
      have hL : bv ((List.range (2 * t)).map (chr c)) ++ bv [dgt u, dgt v] = bv ((List.range (2 * (t + 1))).map (chr c)) := by
        rw [show 2 * (t + 1) = 2 * t + 1 + 1 by omega, List.range_succ, List.range_succ]
        simp only [List.map_append, List.map_cons, List.map_nil, chr_even, chr_odd, hy, a2]
        rw [show (y : Int) % 16 = (v : Int) by have := hv.out; omega]
        simp [bv]
      rw [hL] at hown5
      go_wp2
      go_roundw
      case rel => exact ⟨t + 1, by omega, by go_num, by rw [show 2 * (t + 1) = 2 * t + [dgt (u : Int), dgt v].length from rfl]; exact hown5, hB5⟩
      case measure => simp [intOf]; omega
    · obtain rfl : t = 32 := by omega
      obtain ⟨g, cap, rfl, hg, hcap⟩ := owns_form hown (by omega)
      have hcv := run_convert_bytes_arg (P := Try.prog) wr 28 5 Try.underlying28 Try.underlying5 g 0 64 cap ((List.range 64).map (chr c)) (by simp) (fun i hi => by
        rw [Nat.zero_add, hown.cellAt i (by omega), bv_get _ i (by simpa using hi)]) 9 Try.underlying9
      have hB' : Below w.heap.size w wr := hbA.trans (hB.mono (by omega))
      clear hown
      go_wp2
      go_ret
      exact ⟨rfl, hB'⟩
end Go.Proofs.Ytbbhjgflaiacaaa
