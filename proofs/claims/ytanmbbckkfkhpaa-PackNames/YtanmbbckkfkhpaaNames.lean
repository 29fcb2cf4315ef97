import Derived.Test.YtanmbbckkfkhpaaTold
namespace Go.Proofs.Ytanmbbckkfkhpaa
open Go.RowKit

theorem eqE22 (W : World) : (binOp .eql 27 (.iface 23 (.int .i64 22)) (.iface 23 (.int .i64 22))).run Try.prog W = .ok (.bool true) W := by kernel_rfl

set_option maxRecDepth 2000 in
set_option maxHeartbeats 1000000 in
theorem names_any (w : World) : Calls Try.prog 3 #[] w fun e w' => e = .returned (.bool true) ∧ Below w.heap.size w w' := by
  have HB := Keep.mk (below_new w (.cells #[.int .i64 22, .int .i64 3] 25))
  have HN := Keep.mk (Blk.new w 25 #[.int .i64 22, .int .i64 3])
  have he := eqE22
  go_enter Try.func3, Try.ntmps3
  go_wp2_with (first | (refine wpList_boxA rfl 25 (.tmp 2) rfl _ rfl ?_; refine Hid.out ?_))
  refine hid_in ?_
  generalize w.alloc (.cells #[.int .i64 22, .int .i64 3] 25) = w1 at *
  go_wp2_with fail
  have h8 : Calls Try.prog 8 #[ptr w.heap.size] w1 fun e w' => e = .returned (.iface 23 (.int .i64 22)) ∧ w' = w1 := by
    have c0 : w1.cell? ⟨w.heap.size, 0, none⟩ = some (.int .i64 22) := by rw [HN.out.cell]; rfl
    go_enter Try.func8, Try.ntmps8
    go_wp2
    go_ret
    exact ⟨rfl, rfl⟩
  refine h8.mono ?_
  rintro e w2 ⟨rfl, hw2⟩
  rw [hw2]
  clear hw2 h8
  go_wp2_with fail
  refine (awake_any w1).mono ?_
  rintro e w2 ⟨rfl, hb⟩
  have HB2 := Keep.mk (HB.out.trans (hb.mono HB.out.size))
  clear hb
  go_wp2
  go_ret
  exact ⟨rfl, HB2.out⟩
end Go.Proofs.Ytanmbbckkfkhpaa
