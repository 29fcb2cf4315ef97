import Derived.Test.YtpakaladpdoejaaDoorKitB
namespace Go.Proofs.YtpakaladpdoejaaDoor
open Go.RowKit

/-- New bytes: the call has made them. -/
def FreshB (w : World) (v : Value) (l : List Int) (w' : World) : Prop := Own w' v l ∧ (∃ k, v.ownBlock = some k ∧ w.heap.size ≤ k) ∧ Below w.heap.size w w'
theorem FreshB.app {w wr w' : World} {v v' : Value} {l m : List Int} (h : FreshB w v l wr) (hp : AppPost wr v m v' w') : FreshB w v' m w' := by
  obtain ⟨h1, h2⟩ := grow_free h.2.1 h.2.2.size hp
  exact ⟨hp.1, h1, h.2.2.trans h2⟩
theorem FreshB.later {w wr w' : World} {v : Value} {l : List Int} (h : FreshB w v l wr) (hb : Below wr.heap.size wr w') : FreshB w v l w' :=
  ⟨h.1.grown (Grown.below (S := fun _ => False) hb) fun _ _ h => h, h.2.1, h.2.2.trans (hb.mono h.2.2.size)⟩
theorem FreshB.from {w w1 wr : World} {v : Value} {l : List Int} (h : FreshB w1 v l wr) (hb : Below w.heap.size w w1) : FreshB w v l wr := by
  obtain ⟨k, h1, h2⟩ := h.2.1
  exact ⟨h.1, ⟨k, h1, Nat.le_trans hb.size h2⟩, hb.trans (h.2.2.mono hb.size)⟩
theorem FreshB.empty (w : World) : FreshB w (.slice (some ⟨w.heap.size, 0, none⟩) 0 0) [] (w.alloc (.cells #[] 5)) :=
  ⟨own_empty _ _ (Blk.new _ _ _), ⟨_, rfl, Nat.le_refl _⟩, below_new _ _⟩

set_option maxRecDepth 8000 in
set_option maxHeartbeats 1000000 in
theorem hashed_any (c : Nat → Int) (w : World) :
    Calls Tryd.prog 23 #[.agg (bytesA 32 c)] w fun e w' => ∃ v', e = .returned v' ∧ FreshB w v' (hl 32 c) w' := by
  have HBx := Keep.mk ((Blk.new w 40 (bytesA 32 c)).alloc (.cells #[] 5))
  have HF := Keep.mk ((FreshB.empty (w.alloc (.cells (bytesA 32 c) 40))).from (below_new w (.cells (bytesA 32 c) 40)))
  go_enter Tryd.func23, Tryd.ntmps23
  go_wp2_with (first | (refine wpList_boxA rfl 40 (.tmp 0) rfl (bytesA 32 c) rfl ?_; refine Hid.out ?_))
  refine hid_in ?_
  obtain ⟨w0, hw0⟩ : ∃ w0, Keep (w0 = w.alloc (.cells (bytesA 32 c) 40)) := ⟨_, ⟨rfl⟩⟩
  rw [← hw0.out] at HBx HF ⊢
  go_wp2_with fail
  go_loopw [3, 4] (fun b i wr => ∃ (t : Nat) (v1 : Value), t ≤ 32 ∧ b = v1 ∧ i = .int .i64 t ∧ FreshB w v1 (hl t c) wr ∧ Blk wr w.heap.size 40 (bytesA 32 c)) (fun _ i _ => 32 - (intOf i).toNat)
  case atStart => exact ⟨0, _, by omega, rfl, rfl, HF.out, HBx.out⟩
  case round =>
    clear HF HBx hw0
    obtain ⟨t, v1, ht, rfl, rfl, hF, hb1⟩ := hrel
    by_cases hlt : t < 32
    · have hlt' : (t : Int) < 32 := by omega
      have cc : wr.cell? ⟨w.heap.size, t, none⟩ = some (.int .u8 (c t)) := by rw [hb1.cell, bytesA_get _ _ _ hlt]
      have HO1 := Keep.mk (hF.1.box (.cells #[.int .u8 (c t)] 5))
      have Hb := Keep.mk (hb1.alloc (.cells #[.int .u8 (c t)] 5))
      have HF1 := Keep.mk (hF.later (below_new wr (.cells #[.int .u8 (c t)] 5)))
      have Hne := Keep.mk (hF.1.ne hb1 (by decide))
      have hlen : Keep ((hl t c).length + [c t].length ≤ 140737488355328) := ⟨by simp [hl_len]; omega⟩
      clear hF hb1
      go_wp2_with (first | (at_builtin; refine wpList_app rfl (.tmp 10) (.tmp 14) rfl _ (.slice (some ⟨wr.heap.size, 0, none⟩) 1 1) (hl t c) [c t] rfl rfl HO1.out (row_one wr _) hlen.out ?_; intro v' w' hp; refine Hid.out ?_))
      refine hid_in ?_
      have HP := Keep.mk (HF1.out.app hp)
      have HBn := Keep.mk (hp.grown.blk Hb.out Hne.out)
      clear hp cc HF1 HO1 Hb Hne
      go_wp2
      go_roundw
      case rel =>
        refine ⟨t + 1, v', by omega, rfl, by go_num, ?_, HBn.out⟩
        have e : hl (t + 1) c = hl t c ++ [c t] := by simp [hl, List.range_succ]
        rw [e]; exact HP.out
      case measure => simp only [intOf]; omega
    · obtain rfl : t = 32 := by omega
      have HF1 := Keep.mk hF
      clear hF hb1
      go_wp2
      go_ret
      exact ⟨_, rfl, HF1.out⟩
end Go.Proofs.YtpakaladpdoejaaDoor
