import Derived.Test.YtbbhjgflaiacaaaOrdK
namespace Go.Proofs.Ytbbhjgflaiacaaa
open Go.RowKit Go.Sort

set_option maxRecDepth 20000 in
set_option maxHeartbeats 1000000 in
/-- sha.Sort. -/
theorem sort_any (v : Value) (L : List Hs) (w : World) (h : HRow w v L) (hn : L.length ≤ 4398046511104) : Calls Try.prog 25 #[v] w (SortPost L w) := by
  obtain ⟨a, c, hv⟩ := h.form
  obtain ⟨n, hL⟩ : ∃ n, Keep (L.length = n) := ⟨_, ⟨rfl⟩⟩
  have hn' : n ≤ 4398046511104 := by rw [← hL.out]; exact hn
  obtain ⟨M, hM⟩ : ∃ M, Keep (madeCells (bytesA 32 fun _ => 0) (n * 32) = M) := ⟨_, ⟨rfl⟩⟩
  have HMS : Keep (M.size = L.length * 32) := ⟨by rw [← hM.out, size_madeCells, hL.out]⟩
  have HV : Keep (v = .slice a n c) := ⟨by rw [← hL.out]; exact hv⟩
  have HR : Keep (HRow (w.alloc (.cells M 23)) v L) := ⟨h.below (below_new w _)⟩
  have HB0 : Keep (Blk (w.alloc (.cells M 23)) w.heap.size 23 M) := ⟨Blk.new _ _ _⟩
  have HBel : Keep (Below w.heap.size w (w.alloc (.cells M 23))) := ⟨below_new w _⟩
  rw [HV.out]
  clear h hv hn
  go_enter Try.func25, Try.ntmps25
  go_wp2_with (first | (refine wpList_makeH rfl (.tmp 5) (.tmp 5) rfl n hn' rfl rfl ?_; rw [hM.out]) | (refine wpList_copyH rfl (.tmp 7) (.tmp 8) rfl w.heap.size n v L M (by rw [hL.out]; rfl) (by rw [HV.out]; rfl) HB0.out HMS.out HR.out ?_))
  have HB1 : Keep (Blk ((w.alloc (.cells M 23)).setRow w.heap.size (flatH L).toArray) w.heap.size 23 (flatH L).toArray) := ⟨HB0.out.setRow _⟩
  have HBel1 : Keep (Below w.heap.size w ((w.alloc (.cells M 23)).setRow w.heap.size (flatH L).toArray)) := ⟨below_setRow HBel.out (Nat.le_refl _) _⟩
  generalize (w.alloc (.cells M 23)).setRow w.heap.size (flatH L).toArray = w1 at *
  have hs := sortFunc_any w.heap.size n L w1 HB1.out (by rw [hL.out]; exact hn')
  rw [hL.out] at hs
  go_wp2_with fail
  refine hs.mono ?_
  rintro e w2 ⟨rfl, E, hEl, hEs, hEm, hEb, hEB⟩
  have HE : Keep (E.length = L.length ∧ E.Pairwise (fun x y => ¬ Lt y x) ∧ (∀ x, x ∈ E ↔ x ∈ L)) := ⟨by rw [hEl, hL.out], hEs, hEm⟩
  have HEb : Keep (Blk w2 w.heap.size 23 (flatH E).toArray) := ⟨hEb⟩
  have HBel2 : Keep (Below w.heap.size w w2) := ⟨HBel1.out.trans (hEB _ (Nat.le_refl _))⟩
  clear hEl hEs hEm hEb hEB hs
  go_wp2_with fail
  refine (compact_any w.heap.size n E w2 HEb.out (by rw [HE.out.1, hL.out]) hn').mono ?_
  rintro e w3 ⟨k, F, rfl, hkn, hFl, hFt, hFb, hFB⟩
  have HK : Keep (SortPost L w (.returned (.slice (some ⟨w.heap.size, 0, none⟩) k n)) w3) := ⟨by
    have hk : (once E).length = k := by rw [← hFt, List.length_take, hFl]; omega
    refine ⟨_, once E, rfl, ?_, once_rising E HE.out.2.1, fun x => by rw [once_mem, HE.out.2.2], by have := once_length E; rw [HE.out.1] at this; exact this, HBel2.out.trans (hFB _ (Nat.le_refl _))⟩
    refine ⟨by rw [flatH_len], .inr ⟨w.heap.size, n, (flatH F).toArray, by rw [hk], Nat.le_refl _, hFb, by rw [hk]; exact hkn, by unfold maxLen; omega, by rw [flatH_arr_size, hFl], ?_⟩⟩
    rw [hk, ← hFt]
    exact flatH_take F k⟩
  clear hkn hFl hFt hFb hFB
  go_wp2
  go_ret
  exact HK.out
end Go.Proofs.Ytbbhjgflaiacaaa
