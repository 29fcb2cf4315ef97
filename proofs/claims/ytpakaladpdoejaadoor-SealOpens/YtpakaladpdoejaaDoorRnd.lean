import Derived.Test.YtpakaladpdoejaaDoorOnce
namespace Go.Proofs.YtpakaladpdoejaaDoor
open Go.RowKit

theorem layUp_rng (s : Nat → Int) : ∀ t i, 0 ≤ layUp s t i ∧ layUp s t i < 256
  | 0, i => by simp [layUp]
  | t + 1, i => by
    have ih := layUp_rng s t i
    simp only [layUp, upd]
    repeat' split
    all_goals first | exact ih | omega
theorem shaP_rng (l : List Int) (i : Nat) : 0 ≤ shaP l i ∧ shaP l i < 256 := layUp_rng _ 8 i
theorem xor_rng (a b : Int) (h1 : 0 ≤ a ∧ a < 256) (h2 : 0 ≤ b ∧ b < 256) : 0 ≤ bits .xor .u8 a b ∧ bits .xor .u8 a b < 256 := by
  rw [u8_xor a b h1.1 h1.2 h2.1 h2.2]
  have : a.toNat ^^^ b.toNat < 2 ^ 8 := Nat.xor_lt_two_pow (by omega) (by omega)
  omega
theorem xor_zero (a : Int) (h1 : 0 ≤ a ∧ a < 256) : bits .xor .u8 a 0 = a := by
  rw [u8_xor a 0 h1.1 h1.2 (by omega) (by omega)]
  simp
  omega
end Go.Proofs.YtpakaladpdoejaaDoor
