import Derived.Test.YtanmbbckkfkhpaaOutB
import Derived.Test.YtanmbbckkfkhpaaLen
namespace Go.Proofs.Ytanmbbckkfkhpaa
open Go.RowKit

/-! ### How many bytes a form has. -/
theorem numF_size (f : Nat) : ∀ x, 0 < x → x < 128 ^ (f + 1) → 128 ^ ((numF f x).length - 1) ≤ x ∧ x < 128 ^ (numF f x).length := by
  induction f with
  | zero => intro x h0 hx; have : x < 128 := by simpa using hx
            simp [numF]; omega
  | succ f ih =>
    intro x h0 hx
    rw [numF]
    by_cases h : x < 128
    · rw [if_pos h]; simp; omega
    · rw [if_neg h]
      have h2 : x / 128 < 128 ^ (f + 1) := by rw [Nat.div_lt_iff_lt_mul (by omega)]; rw [Nat.pow_succ] at hx; exact hx
      obtain ⟨h3, h4⟩ := ih (x / 128) (by omega) h2
      have hp := numF_pos f (x / 128)
      rw [List.length_cons, Nat.add_sub_cancel]
      constructor
      · obtain ⟨k, hk⟩ : ∃ k, (numF f (x / 128)).length = k + 1 := ⟨(numF f (x / 128)).length - 1, by omega⟩
        rw [hk] at h3 ⊢
        rw [Nat.add_sub_cancel] at h3
        rw [Nat.pow_succ]
        exact (Nat.le_div_iff_mul_le (by omega)).1 h3
      · rw [Nat.pow_succ]
        exact (Nat.div_lt_iff_lt_mul (by omega)).1 h4
theorem bl_size (x : Nat) (hx : x < 18446744073709551616) (h0 : 0 < x) : (Lib.bitLen x + 6) / 7 = (numL x).length := by
  obtain ⟨h1, h2⟩ := numF_size 9 x h0 (by
    have : (128 : Nat) ^ (9 + 1) = 1180591620717411303424 := by decide
    rw [this]; omega)
  have hk := numL_len x
  have hp := numF_pos 9 x
  obtain ⟨k, hkk⟩ : ∃ k, (numL x).length = k + 1 := ⟨(numL x).length - 1, by unfold numL; omega⟩
  have e1 : (128 : Nat) ^ k = 2 ^ (7 * k) := by rw [Nat.pow_mul]
  unfold numL at hkk
  rw [hkk, Nat.add_sub_cancel, e1] at h1
  rw [hkk] at h2
  have hlow : Lib.bitLen x = 7 * k + Lib.bitLen (x / 2 ^ (7 * k)) := Lib.bitLen_shift (7 * k) x h1 (by rw [two64]; exact hx)
  have hy1 : 0 < x / 2 ^ (7 * k) := Nat.div_pos h1 (Nat.two_pow_pos _)
  have hy2 : x / 2 ^ (7 * k) < 128 := by
    rw [Nat.div_lt_iff_lt_mul (Nat.two_pow_pos _), ← e1, Nat.mul_comm, ← Nat.pow_succ]; exact h2
  have hy3 : 1 ≤ Lib.bitLen (x / 2 ^ (7 * k)) := by
    rw [Lib.bitLen_half _ (by omega) (by rw [two64]; omega)]; omega
  have hy4 : Lib.bitLen (x / 2 ^ (7 * k)) ≤ 7 := Lib.bitLen_le _ 7 (by omega) hy2
  unfold numL
  rw [hkk, hlow]
  omega
theorem bl_zero : Lib.bitLen 0 = 0 := by decide

set_option maxHeartbeats 1000000 in
theorem size_any (x : Nat) (w : World) (hx : x < 18446744073709551616) :
    Calls Try.prog 13 #[.int .u64 (x : Int)] w fun e w' => e = .returned (.int .i64 ((numL x).length : Int)) ∧ w' = w := by
  have HX := Keep.mk hx
  have hl : Lib.bitLen x ≤ 64 := Lib.bitLen_le x 64 (by omega) (by rw [two64]; exact hx)
  obtain ⟨b, hb⟩ : ∃ b, Keep (b = Lib.bitLen x) := ⟨_, ⟨rfl⟩⟩
  rw [← hb.out] at hl
  have hl' : (b : Int) ≤ 64 := by omega
  have h0' : (0 : Int) ≤ (b : Int) := by omega
  clear hx hl
  go_enter Try.func13, Try.ntmps13
  go_wp2_with fail
  refine (len64_any x w HX.out).mono ?_
  rintro e w1 ⟨rfl, rfl⟩
  rw [← hb.out]
  go_wp2
  go_ret
  refine ⟨?_, rfl⟩
  show Ending.returned (Value.int .i64 (max 1 (((b : Int) + 7 - 1) / 7))) = _
  congr 2
  by_cases hx0 : x = 0
  · subst hx0
    rw [bl_zero] at hb
    rw [hb.out, numL_small 0 (by omega)]
    decide
  · have h := bl_size x HX.out (by omega)
    rw [← hb.out] at h
    have h1 := numF_pos 9 x
    rw [← h] 
    unfold numL at h
    omega

set_option maxHeartbeats 1000000 in
theorem rsize_any (x : Nat) (w : World) (hx : x < 18446744073709551616) :
    Calls Try.prog 14 #[.int .u64 (x : Int)] w fun e w' => e = .returned (.int .i64 ((numL x).length : Int)) ∧ w' = w := by
  have HX := Keep.mk hx
  clear hx
  go_enter Try.func14, Try.ntmps14
  go_wp2
  go_loop [0, 3] (fun i n => ∃ (y k : Nat), i = .int .u64 (y : Int) ∧ n = .int .i64 (k : Int) ∧ Keep (y < 18446744073709551616) ∧ Keep (k + (numL y).length = (numL x).length + 1) ∧ k ≤ 10) (fun i _ => (intOf i).toNat)
  case atStart => exact ⟨x, 1, rfl, rfl, HX, ⟨by omega⟩, by omega⟩
  case round =>
    obtain ⟨y, k, rfl, rfl, hy, hk, hk10⟩ := hrel
    by_cases h128 : 128 ≤ y
    · have h128' : (128 : Int) ≤ (y : Int) := by omega
      have HS : Keep (numL y = ((y % 128 + 128 : Nat) : Int) :: numL (y / 128)) := ⟨numL_step y h128 hy.out⟩
      obtain ⟨z, hz⟩ : ∃ z, Keep (y / 128 = z) := ⟨_, ⟨rfl⟩⟩
      have hz1 : (y : Int) / 128 = (z : Int) := by have := hz.out; omega
      have hwz : IntKind.u64.wrap (z : Int) = (z : Int) := by rw [IntKind.wrap_u64]; have := hz.out; have := hy.out; omega
      go_wp2
      refine ⟨⟨z, k + 1, rfl, by go_num, ⟨by have := hy.out; have := hz.out; omega⟩, ⟨?_⟩, ?_⟩, by simp only [intOf]; have := hz.out; omega⟩
      · have := hk.out
        rw [HS.out, List.length_cons, hz.out] at this
        omega
      · have := hk.out
        have h1 := numL_len x
        have h2 := numF_pos 9 z
        rw [HS.out, List.length_cons, hz.out] at this
        unfold numL at this h1
        omega
    · have h128' : ¬ (128 : Int) ≤ (y : Int) := by omega
      have HS : Keep ((k : Int) = (numL x).length) := ⟨by have := hk.out; rw [numL_small y (by omega)] at this; simp at this; omega⟩
      go_wp2
      go_ret
      refine ⟨?_, rfl⟩
      show Ending.returned (Value.int .i64 (k : Int)) = _
      rw [HS.out]
end Go.Proofs.Ytanmbbckkfkhpaa
