import Derived.Test.YtkcdoamohiaiaaaChecked
import Derived.Lib.Strings
import Derived.Lib.Slices
import Derived.Lib.Small
import Derived.Lib.Walk
import Derived.Lib.BitFns
namespace Go.Proofs.Ytkcdoamohiaiaaa

theorem bl_part (x n : Int) (m k : Nat) (y : Int) (hn : n = (m : Int)) (hk : 2 ^ m = k) (h1 : x ≤ 18446744073709551615) (hy : y.toNat = x.toNat / k) (h2 : 0 ≤ y) (h3 : y < 256) (hx : k ≤ x.toNat) (hm : m ≤ 64) :
    (n + ((Lib.len8 (y % 256) + 9223372036854775808) % 18446744073709551616 - 9223372036854775808) + 9223372036854775808) % 18446744073709551616 - 9223372036854775808 = (Lib.bitLen x.toNat : Int) := by
  have e : y % 256 = y := by omega
  have l := Lib.bitLen_le8' y h2 (by omega)
  have h4 : Lib.bitLen x.toNat = m + Lib.bitLen (x.toNat / 2 ^ m) := Lib.bitLen_shift m x.toNat (by rw [hk]; exact hx) (by omega)
  rw [e, Lib.len8_of y h2 (by omega), h4, hk, ← hy]
  omega

set_option maxRecDepth 8000 in
set_option maxHeartbeats 4000000 in
set_option maxRecDepth 100000 in
theorem len64_int (x : Int) (w : World) (h0 : 0 ≤ x) (h1 : x ≤ 18446744073709551615) :
    Calls Try.prog 33 #[.int .u64 x] w fun e w' => e = .returned (.int .i64 (Lib.bitLen x.toNat)) ∧ w' = w := by
  go_enter Try.func33, Try.ntmps33
  go_wp2
  all_goals (go_ret; refine ⟨congrArg Ending.returned (congrArg (Value.int IntKind.i64) ?_), rfl⟩)
  · exact bl_part x 56 56 72057594037927936 _ rfl (by decide) h1 (by omega) (by omega) (by omega) (by omega) (by omega)
  · exact bl_part x 48 48 281474976710656 _ rfl (by decide) h1 (by omega) (by omega) (by omega) (by omega) (by omega)
  · exact bl_part x 40 40 1099511627776 _ rfl (by decide) h1 (by omega) (by omega) (by omega) (by omega) (by omega)
  · exact bl_part x 32 32 4294967296 _ rfl (by decide) h1 (by omega) (by omega) (by omega) (by omega) (by omega)
  · exact bl_part x 24 24 16777216 _ rfl (by decide) h1 (by omega) (by omega) (by omega) (by omega) (by omega)
  · exact bl_part x 16 16 65536 _ rfl (by decide) h1 (by omega) (by omega) (by omega) (by omega) (by omega)
  · exact bl_part x 8 8 256 _ rfl (by decide) h1 (by omega) (by omega) (by omega) (by omega) (by omega)
  · have e : (x % 256).toNat = x.toNat := by omega
    have l := Lib.bitLen_le8' (x % 256) (by omega) (by omega)
    rw [Lib.len8_of (x % 256) (by omega) (by omega), e]
    rw [e] at l
    omega
theorem len64_any (x : Nat) (w : World) (hx : x < 18446744073709551616) :
    Calls Try.prog 33 #[.int .u64 (x : Int)] w fun e w' => e = .returned (.int .i64 (Lib.bitLen x)) ∧ w' = w := by
  have h := len64_int (x : Int) w (by omega) (by omega)
  rwa [Int.toNat_natCast] at h
end Go.Proofs.Ytkcdoamohiaiaaa
