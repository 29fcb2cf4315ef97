import Derived.Test.YtbbhjgflaiacaaaHashes
namespace Go.Proofs.Ytbbhjgflaiacaaa
open Go.RowKit

/-- The number of a digit by its two rows. -/
def halfV (c : Int) : Int := if 48 ≤ c ∧ c ≤ 57 then c - 48 else if 97 ≤ c ∧ c ≤ 102 then c - 87 else -1
theorem halfV_hexv (k : Nat) (hk : k < 256) : halfV k = hexv k := by
  have : ∀ k : Fin 256, halfV k.val = hexv k.val := by decide +kernel
  exact this ⟨k, hk⟩

set_option maxHeartbeats 400000 in
theorem half_any (k : Nat) (hk : k < 256) (w : World) :
    Calls Try.prog 46 #[.int .u8 (k : Int)] w fun e w' => e = .returned (.tuple #[.int .u8 (if 0 ≤ hexv k then hexv k else 0), .bool (decide (0 ≤ hexv k))]) ∧ w' = w := by
  rw [← halfV_hexv k hk]
  by_cases h1 : (48 : Int) ≤ k
  · by_cases h2 : (k : Int) ≤ 57
    · have hv : halfV k = k - 48 := by unfold halfV; rw [if_pos ⟨h1, h2⟩]
      have hp : (0 : Int) ≤ k - 48 := by omega
      have hw : IntKind.u8.wrap ((k : Int) - 48) = k - 48 := by rw [IntKind.wrap_u8]; omega
      rw [hv, if_pos hp, decide_eq_true hp]
      go_enter Try.func46, Try.ntmps46
      go_wp2
      go_ret2
      exact ⟨rfl, rfl⟩
    · by_cases h3 : (97 : Int) ≤ k
      · by_cases h4 : (k : Int) ≤ 102
        · have hv : halfV k = k - 87 := by unfold halfV; rw [if_neg (by omega), if_pos ⟨h3, h4⟩]
          have hp : (0 : Int) ≤ k - 87 := by omega
          have hw : IntKind.u8.wrap ((k : Int) - 97) = k - 97 := by rw [IntKind.wrap_u8]; omega
          have hw2 : IntKind.u8.wrap ((k : Int) - 97 + 10) = k - 87 := by rw [IntKind.wrap_u8]; omega
          rw [hv, if_pos hp, decide_eq_true hp]
          go_enter Try.func46, Try.ntmps46
          go_wp2
          go_ret2
          exact ⟨rfl, rfl⟩
        · have hv : halfV k = -1 := by unfold halfV; rw [if_neg (by omega), if_neg (by omega)]
          have hp : ¬ (0 : Int) ≤ -1 := by decide
          rw [hv, if_neg hp, decide_eq_false hp]
          go_enter Try.func46, Try.ntmps46
          go_wp2
          go_ret2
          exact ⟨rfl, rfl⟩
      · have hv : halfV k = -1 := by unfold halfV; rw [if_neg (by omega), if_neg (by omega)]
        have hp : ¬ (0 : Int) ≤ -1 := by decide
        rw [hv, if_neg hp, decide_eq_false hp]
        go_enter Try.func46, Try.ntmps46
        go_wp2
        go_ret2
        exact ⟨rfl, rfl⟩
  · have hv : halfV k = -1 := by unfold halfV; rw [if_neg (by omega), if_neg (by omega)]
    have hp : ¬ (0 : Int) ≤ -1 := by decide
    rw [hv, if_neg hp, decide_eq_false hp]
    go_enter Try.func46, Try.ntmps46
    go_wp2
    go_ret2
    exact ⟨rfl, rfl⟩

set_option maxHeartbeats 400000 in
theorem digit_any (k : Nat) (hk : k < 16) (w : World) :
    Calls Try.prog 47 #[.int .u8 (k : Int)] w fun e w' => e = .returned (.int .u8 (if k < 10 then 48 + (k : Int) else 87 + k)) ∧ w' = w := by
  by_cases h1 : k < 10
  · have h1' : (k : Int) < 10 := by omega
    have hw : IntKind.u8.wrap (48 + (k : Int)) = 48 + k := by rw [IntKind.wrap_u8]; omega
    rw [if_pos h1]
    go_enter Try.func47, Try.ntmps47
    go_wp2
    go_ret
    exact ⟨rfl, rfl⟩
  · have h1' : ¬ (k : Int) < 10 := by omega
    have hw : IntKind.u8.wrap (97 + (k : Int)) = 97 + k := by rw [IntKind.wrap_u8]; omega
    have hw2 : IntKind.u8.wrap (97 + (k : Int) - 10) = 87 + k := by rw [IntKind.wrap_u8]; omega
    rw [if_neg h1]
    go_enter Try.func47, Try.ntmps47
    go_wp2
    go_ret
    exact ⟨rfl, rfl⟩
end Go.Proofs.Ytbbhjgflaiacaaa
