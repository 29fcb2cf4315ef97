import Derived.Test.YtbbhjgflaiacaaaAbc
namespace Go.Proofs.Ytbbhjgflaiacaaa
open Go.RowKit

theorem Try.eqHash (w : World) : (binOp .eql 23 (.agg hashA) (.agg hashA)).run Try.prog w = .ok (.bool true) w := by kernel_rfl
theorem hashA_size : hashA.size = 32 := by unfold hashA; exact bytesA_size _ _
theorem hashA_one : hashA.all (·.oneCell') = true := bytesA_one _ _
theorem Try.size23H : (Try.prog.info? 23).map (·.size) = some hashA.size := Try.size23B _
theorem hashA_0 : hashA[0]? = some (.int .u8 186) := by kernel_rfl
theorem hashA_31 : hashA[31]? = some (.int .u8 173) := by kernel_rfl

/-- What fixed leans on of the world. -/
def FixS (b : Nat) (w : World) : Prop := Blk w b 23 hashA ∧ w.rangeAt b 0 hashA.toList ∧ w.cell? ⟨b, 0, none⟩ = some (.int .u8 186) ∧ w.cell? ⟨b, 31, none⟩ = some (.int .u8 173)
theorem FixS.mk' {b : Nat} {w : World} (h : Blk w b 23 hashA) : Blk w b 23 hashA ∧ w.rangeAt b 0 hashA.toList ∧ w.cell? ⟨b, 0, none⟩ = some (.int .u8 186) ∧ w.cell? ⟨b, 31, none⟩ = some (.int .u8 173) :=
  ⟨h, fun j v hv => by rw [Nat.zero_add, h.cell, ← Array.getElem?_toList]; exact hv, by rw [h.cell, hashA_0], by rw [h.cell, hashA_31]⟩

set_option maxHeartbeats 1000000 in
theorem fixed_any (w : World) : Calls Try.prog 9 #[] w fun e w' => e = .returned (.bool true) ∧ Below w.heap.size w w' := by
  go_enter Try.func9, Try.ntmps9
  go_wp2_with fail
  refine (parse_abc _).mono ?_
  rintro e w1 ⟨rfl, hB1⟩
  have hN := Blk.new w1 23 (bytesA 32 fun _ => 0)
  have hH : Blk (w1.alloc (.cells hashA 23)) w1.heap.size 23 hashA := Blk.new _ _ _
  go_wp2_with (refine wpList_new rfl 23 rfl _ Try.new23 ?_; refine wpList_store_row rfl 23 (.tmp 1) (.tmp 5) rfl w1.heap.size hashA rfl rfl 23 (bytesA 32 fun _ => 0) hN Try.size23H (by rw [hashA_size, bytesA_size]) hashA_one ?_; rw [World.setRow_alloc_new])
  have hB2 : Below w.heap.size w (w1.alloc (.cells hashA 23)) := hB1.alloc hB1.size _
  clear hN
  generalize w1.alloc (.cells hashA 23) = w2 at *
  have heq := Try.eqHash
  have hu := Try.underlying23
  have hi : (Try.prog.info? 23).map (·.size) = some hashA.toList.length := by rw [Array.length_toList]; exact Try.size23H
  obtain ⟨b, hb⟩ : ∃ b, b = w1.heap.size := ⟨_, rfl⟩
  rw [← hb] at hH ⊢
  have HB : Keep (Below w.heap.size w w2) := ⟨hB2⟩
  clear hB1 hB2 hb
  go_region_held3 (fun w' => Blk w' b 23 hashA ∧ w'.rangeAt b 0 hashA.toList ∧ w'.cell? ⟨b, 0, none⟩ = some (.int .u8 186) ∧ w'.cell? ⟨b, 31, none⟩ = some (.int .u8 173))
    ((refine FixS.mk' ?_; first | exact Blk.drew hH | exact Blk.drew (Blk.alloc hH _) | exact Blk.below (Blk.drew (Blk.alloc hH _)) hb5 (Blk.lt (Blk.drew (Blk.alloc hH _)))))
    (first | (go_at_call 11; refine (of_abc _ _ ?_).mono ?_; exact .inr <| .inr ⟨w2.heap.size, 0, 3, rfl, by decide, fun i hi => by match i, hi with | 0, _ => simp | 1, _ => simp | 2, _ => simp⟩; rintro e w' ⟨rfl, hb5⟩))
  go_wp2
  go_ret
  exact ⟨rfl, ((HB.out.alloc HB.out.size _).drew).trans (hb5.mono (by have := HB.out.size; simp; omega))⟩

set_option maxHeartbeats 400000 in
theorem names_any (w : World) : Calls Try.prog 3 #[] w fun e w' => e = .returned (.bool true) ∧ Below w.heap.size w w' := by
  go_enter Try.func3, Try.ntmps3
  go_wp2_with (first | (refine wpList_bld rfl 23 _ rfl (bytesA 32 fun _ => 0) (by kernel_rfl) ?_; refine wpList_new rfl 23 rfl _ Try.new23 ?_; refine wpList_store_row rfl 23 (.tmp 1) (.tmp 2) rfl w.heap.size (bytesA 32 fun _ => 0) rfl rfl 23 (bytesA 32 fun _ => 0) (Blk.new _ _ _) (Try.size23B _) (bytesA_sizes _ _ _) (bytesA_one _ _) ?_; rw [World.setRow_alloc_new]) | (go_at_call 9; refine (fixed_any _).mono ?_; rintro e w' ⟨rfl, hb⟩))
  go_ret
  exact ⟨rfl, (below_new w _).trans (hb.mono (by simp))⟩
end Go.Proofs.Ytbbhjgflaiacaaa
