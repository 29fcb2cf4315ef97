import Derived.Test.YtpakaladpdoejaaOnce
namespace Go.Proofs.Ytpakaladpdoejaa
open Go.RowKit

theorem layUp_rng (s : Nat → Int) : ∀ t i, 0 ≤ layUp s t i ∧ layUp s t i < 256
  | 0, i => by simp [layUp]
  | t + 1, i => by
    have ih := layUp_rng s t i
    simp only [layUp, upd]
    repeat' split
    all_goals first | exact ih | omega
theorem shaP_rng (l : List Int) (i : Nat) : 0 ≤ shaP l i ∧ shaP l i < 256 := layUp_rng _ 8 i
theorem xor_rng (a b : Int) (h1 : 0 ≤ a ∧ a < 256) (h2 : 0 ≤ b ∧ b < 256) : 0 ≤ bits .xor .u8 a b ∧ bits .xor .u8 a b < 256 := by
  rw [u8_xor a b h1.1 h1.2 h2.1 h2.2]
  have : a.toNat ^^^ b.toNat < 2 ^ 8 := Nat.xor_lt_two_pow (by omega) (by omega)
  omega
theorem xor_zero (a : Int) (h1 : 0 ≤ a ∧ a < 256) : bits .xor .u8 a 0 = a := by
  rw [u8_xor a 0 h1.1 h1.2 (by omega) (by omega)]
  simp
  omega
set_option maxHeartbeats 1000000 in
theorem round_any (n : Int) (m : Nat) (w : World) (hm : 0 < m) (hm2 : (m : Int) ≤ 140737488355328) :
    Calls Try.prog 19 #[.int .i64 n, .int .i64 (m : Int)] w fun e w' => ∃ r : Nat, r < m ∧ e = .returned (.int .i64 (r : Int)) ∧ w' = w := by
  have h1 := Int.tmod_lt_of_pos n (show (0 : Int) < m by omega)
  have h2 := Int.lt_tmod_of_pos n (show (0 : Int) < m by omega)
  obtain ⟨k, hk⟩ : ∃ k, n.tmod m = k := ⟨_, rfl⟩
  rw [hk] at h1 h2
  have hm0 : ((m : Int) == 0) = false := by simp; omega
  have hmne : (m : Int) ≠ 0 := by omega
  have hmpos : (0 : Int) < (m : Int) := by omega
  by_cases hneg : k < 0
  · go_enter Try.func19, Try.ntmps19
    go_wp2
    go_ret
    exact ⟨(k + m).toNat, by omega, by rw [Int.toNat_of_nonneg (by omega)]; rfl, rfl⟩
  · go_enter Try.func19, Try.ntmps19
    go_wp2
    go_ret
    exact ⟨k.toNat, by omega, by rw [Int.toNat_of_nonneg (by omega)]; rfl, rfl⟩
end Go.Proofs.Ytpakaladpdoejaa
