import Derived.Test.YtbkboebinhafhaaBase
namespace Go.Proofs.Ytbkboebinhafhaa
open Go.RowKit

/-! ### Numbers and their forms. -/
def numF : Nat → Nat → List Int
  | 0, x => [(x : Int)]
  | f + 1, x => if x < 128 then [(x : Int)] else ((x % 128 + 128 : Nat) : Int) :: numF f (x / 128)
/-- The form of a number. -/
def numL (x : Nat) : List Int := numF 9 x

theorem numF_more (f : Nat) : ∀ x, x < 128 ^ (f + 1) → numF (f + 1) x = numF f x := by
  induction f with
  | zero => intro x hx; simp only [numF]; rw [if_pos (by simpa using hx)]
  | succ f ih =>
    intro x hx
    by_cases h : x < 128
    · simp only [numF, if_pos h]
    · have h2 : x / 128 < 128 ^ (f + 1) := by rw [Nat.div_lt_iff_lt_mul (by omega)]; rw [Nat.pow_succ] at hx; exact hx
      rw [show numF (f + 1 + 1) x = ((x % 128 + 128 : Nat) : Int) :: numF (f + 1) (x / 128) by rw [numF, if_neg h]]
      rw [show numF (f + 1) x = ((x % 128 + 128 : Nat) : Int) :: numF f (x / 128) by rw [numF, if_neg h], ih _ h2]
theorem two64 : (2 : Nat) ^ 64 = 18446744073709551616 := by decide
theorem numL_small (x : Nat) (h : x < 128) : numL x = [(x : Int)] := by unfold numL; rw [numF, if_pos h]
theorem numL_step (x : Nat) (h : 128 ≤ x) (hx : x < 18446744073709551616) : numL x = ((x % 128 + 128 : Nat) : Int) :: numL (x / 128) := by
  unfold numL
  rw [numF, if_neg (by omega), numF_more 8 (x / 128) (by
    have : (128 : Nat) ^ (8 + 1) = 9223372036854775808 := by decide
    rw [this]; omega)]
theorem numF_ne (f x : Nat) : numF f x ≠ [] := by
  cases f with
  | zero => simp [numF]
  | succ f => rw [numF]; split <;> simp
theorem numL_ne (x : Nat) : numL x ≠ [] := numF_ne 9 x
theorem numF_pos (f x : Nat) : 0 < (numF f x).length := by
  have := numF_ne f x
  exact List.length_pos_iff.2 this
theorem numF_len (f : Nat) : ∀ x, (numF f x).length ≤ f + 1 := by
  induction f with
  | zero => intro x; simp [numF]
  | succ f ih =>
    intro x
    rw [numF]
    split
    · simp
    · have := ih (x / 128); simp; omega
theorem numL_len (x : Nat) : (numL x).length ≤ 10 := numF_len 9 x

/-- Bytes: each of them is one. -/
def Byts (l : List Int) : Prop := ∀ c ∈ l, 0 ≤ c ∧ c < 256
theorem Byts.nil : Byts [] := fun _ h => by simp at h
theorem Byts.app {a b : List Int} (h : Byts a) (k : Byts b) : Byts (a ++ b) := fun c hc => by
  rcases List.mem_append.1 hc with h1 | h1
  · exact h c h1
  · exact k c h1
theorem Byts.one {c : Int} (h : 0 ≤ c ∧ c < 256) : Byts [c] := fun x hx => by simp at hx; subst hx; exact h
theorem Byts.take {a : List Int} (h : Byts a) (n : Nat) : Byts (a.take n) := fun c hc => h c (List.mem_of_mem_take hc)
theorem Byts.drop {a : List Int} (h : Byts a) (n : Nat) : Byts (a.drop n) := fun c hc => h c (List.mem_of_mem_drop hc)
theorem Byts.getD {a : List Int} (h : Byts a) (n : Nat) : 0 ≤ a.getD n 0 ∧ a.getD n 0 < 256 := by
  rw [List.getD_eq_getElem?_getD]
  by_cases hn : n < a.length
  · rw [List.getElem?_eq_getElem hn]; exact h _ (List.getElem_mem hn)
  · rw [List.getElem?_eq_none (by omega)]; decide
theorem numF_byts (f : Nat) : ∀ x, x < 128 ^ (f + 1) → Byts (numF f x) := by
  induction f with
  | zero => intro x hx; refine Byts.one ?_; have : x < 128 := by simpa using hx
            omega
  | succ f ih =>
    intro x hx
    rw [numF]
    split
    · exact Byts.one (by omega)
    · have h2 : x / 128 < 128 ^ (f + 1) := by rw [Nat.div_lt_iff_lt_mul (by omega)]; rw [Nat.pow_succ] at hx; exact hx
      intro c hc
      rcases List.mem_cons.1 hc with rfl | hc
      · omega
      · exact ih _ h2 c hc
theorem numL_byts (x : Nat) (hx : x < 18446744073709551616) : Byts (numL x) := numF_byts 9 x (by
  have : (128 : Nat) ^ (9 + 1) = 1180591620717411303424 := by decide
  rw [this]; omega)

/-! ### The number that bytes begin with. -/
/-- The number whose form bytes begin with, how many of them it has, what is wrong: i bytes have been read, x is their number. -/
def fstG : List Int → Nat → Int → Int × Int × Int
  | [], _, _ => (0, 0, 20)
  | c :: D, i, x => if i = 9 ∧ 1 < c then (0, 0, 22) else if c = 0 ∧ 0 < i then (0, 0, 21) else if c < 128 then (x + c % 128 * 2 ^ (7 * i), (i : Int) + 1, 0) else fstG D (i + 1) (x + c % 128 * 2 ^ (7 * i))
/-- Of so much at most. -/
def fstM (D : List Int) (most : Int) : Int × Int × Int := if (fstG D 0 0).2.2 = 0 ∧ most < (fstG D 0 0).1 then (0, 0, 22) else fstG D 0 0

theorem pow7 (i : Nat) : (0 : Int) < 2 ^ (7 * i) := Int.pow_pos (by decide)
theorem fstG_num (rest : List Int) (f : Nat) : ∀ (i x : Nat) (y : Int), i + f = 9 → (x : Int) * 2 ^ (7 * i) < 18446744073709551616 → (0 < i → 0 < x) →
    fstG (numF f x ++ rest) i y = (y + x * 2 ^ (7 * i), (i : Int) + (numF f x).length, 0) := by
  induction f with
  | zero =>
    intro i x y hi hx h0
    obtain rfl : i = 9 := by omega
    have hx1 : x ≤ 1 := by
      have : (2 : Int) ^ (7 * 9) = 9223372036854775808 := by decide
      rw [this] at hx; omega
    simp only [numF, List.cons_append, List.nil_append, fstG]
    rw [if_neg (by omega), if_neg (by have := h0 (by omega); omega), if_pos (by omega), show (x : Int) % 128 = x by omega]
    simp
  | succ f ih =>
    intro i x y hi hx h0
    by_cases h : x < 128
    · rw [numF, if_pos h]
      simp only [List.cons_append, List.nil_append, fstG]
      rw [if_neg (by omega), if_neg (by
        rintro ⟨h1, h2⟩
        have := h0 h2; omega), if_pos (by omega), show (x : Int) % 128 = x by omega]
      simp
    · rw [numF, if_neg h]
      simp only [List.cons_append, fstG]
      have hp : (2 : Int) ^ (7 * (i + 1)) = 128 * 2 ^ (7 * i) := by
        rw [show 7 * (i + 1) = 7 * i + 7 by omega, Int.pow_add, Int.mul_comm]; rfl
      have hpp := pow7 i
      rw [if_neg (by omega), if_neg (by omega), if_neg (by omega), show ((x % 128 + 128 : Nat) : Int) % 128 = ((x % 128 : Nat) : Int) by omega]
      have hd : ((x / 128 : Nat) : Int) * 2 ^ (7 * (i + 1)) + ((x % 128 : Nat) : Int) * 2 ^ (7 * i) = x * 2 ^ (7 * i) := by
        rw [hp, ← Int.mul_assoc, ← Int.add_mul]
        congr 1
        omega
      have hnn : 0 ≤ ((x % 128 : Nat) : Int) * 2 ^ (7 * i) := Int.mul_nonneg (by omega) (by omega)
      rw [ih (i + 1) (x / 128) _ (by omega) (by omega) (fun _ => by omega)]
      simp only [List.length_cons, Prod.mk.injEq]
      refine ⟨?_, by omega, trivial⟩
      rw [Int.add_assoc, ← hd, Int.add_comm (((x % 128 : Nat) : Int) * _)]
/-- What was laid is read. -/
theorem fstG_numL (x : Nat) (hx : x < 18446744073709551616) (rest : List Int) : fstG (numL x ++ rest) 0 0 = ((x : Int), ((numL x).length : Int), 0) := by
  rw [numL, fstG_num rest 9 0 x 0 rfl (by simp; omega) (fun h => by omega)]
  simp

theorem fstG_inv (D : List Int) : ∀ (i : Nat) (y z k : Int), Byts D → i ≤ 9 → fstG D i y = (z, k, 0) →
    ∃ x : Nat, z = y + x * 2 ^ (7 * i) ∧ (x : Int) * 2 ^ (7 * i) < 18446744073709551616 ∧ (0 < i → 0 < x) ∧ k = (i : Int) + (numF (9 - i) x).length ∧ ∃ rest, D = numF (9 - i) x ++ rest := by
  induction D with
  | nil => intro i y z k _ _ h; simp [fstG] at h
  | cons c D ih =>
    intro i y z k hB hi h
    have hc := hB c (by simp)
    have hD : Byts D := fun x hx => hB x (by simp [hx])
    simp only [fstG] at h
    by_cases h1 : i = 9 ∧ 1 < c
    · rw [if_pos h1] at h; simp at h
    · rw [if_neg h1] at h
      by_cases h2 : c = 0 ∧ 0 < i
      · rw [if_pos h2] at h; simp at h
      · rw [if_neg h2] at h
        have hpp := pow7 i
        by_cases h3 : c < 128
        · rw [if_pos h3] at h
          simp only [Prod.mk.injEq] at h
          obtain ⟨rfl, rfl, _⟩ := h
          refine ⟨c.toNat, ?_, ?_, fun _ => by omega, ?_, D, ?_⟩
          · rw [show c % 128 = c by omega, Int.toNat_of_nonneg hc.1]
          · rw [Int.toNat_of_nonneg hc.1]
            by_cases h9 : i = 9
            · subst h9
              have : (2 : Int) ^ (7 * 9) = 9223372036854775808 := by decide
              rw [this]; omega
            · have hle : (2 : Int) ^ (7 * i) ≤ 2 ^ (7 * 8) := by
                have := Nat.pow_le_pow_right (n := 2) (by decide) (show 7 * i ≤ 7 * 8 by omega)
                exact_mod_cast this
              have h56 : (2 : Int) ^ (7 * 8) = 72057594037927936 := by decide
              have : c * 2 ^ (7 * i) ≤ 127 * 2 ^ (7 * i) := Int.mul_le_mul_of_nonneg_right (by omega) (by omega)
              omega
          · cases h9 : 9 - i with
            | zero => simp [numF]
            | succ f => rw [numF, if_pos (by omega)]; simp
          · cases h9 : 9 - i with
            | zero => simp [numF, Int.toNat_of_nonneg hc.1]
            | succ f => rw [numF, if_pos (by omega)]; simp [Int.toNat_of_nonneg hc.1]
        · rw [if_neg h3] at h
          obtain ⟨x, hz, hx, hx0, hk, rest, hr⟩ := ih (i + 1) _ z k hD (by omega) h
          have hp : (2 : Int) ^ (7 * (i + 1)) = 128 * 2 ^ (7 * i) := by
            rw [show 7 * (i + 1) = 7 * i + 7 by omega, Int.pow_add, Int.mul_comm]; rfl
          have hx1 := hx0 (by omega)
          have hc2 : c % 128 = c - 128 := by omega
          have e9 : 9 - i = (9 - (i + 1)) + 1 := by omega
          have hnum : numF (9 - i) ((c - 128).toNat + 128 * x) = c :: numF (9 - (i + 1)) x := by
            rw [e9, numF, if_neg (by omega), show ((c - 128).toNat + 128 * x) / 128 = x by omega, show ((c - 128).toNat + 128 * x) % 128 = (c - 128).toNat by omega]
            congr 1
            omega
          have hval : (((c - 128).toNat + 128 * x : Nat) : Int) * 2 ^ (7 * i) = (c - 128) * 2 ^ (7 * i) + x * 2 ^ (7 * (i + 1)) := by
            rw [hp, ← Int.mul_assoc, ← Int.add_mul]
            congr 1
            omega
          refine ⟨(c - 128).toNat + 128 * x, ?_, ?_, fun _ => by omega, ?_, rest, ?_⟩
          · rw [hval, hz, hc2]; omega
          · rw [hval]
            have a1 : (c - 128) * 2 ^ (7 * i) ≤ 127 * 2 ^ (7 * i) := Int.mul_le_mul_of_nonneg_right (by omega) (by omega)
            rw [hp] at hx
            by_cases h8 : i ≤ 8
            · -- the sum of what is below and of a multiple of the place
              have hq : (18446744073709551616 : Int) = 2 ^ (64 - 7 * (i + 1)) * (128 * 2 ^ (7 * i)) := by
                rw [← hp, ← Int.pow_add, show 64 - 7 * (i + 1) + 7 * (i + 1) = 64 by omega]; rfl
              rw [hq] at hx ⊢
              have hxl : (x : Int) < 2 ^ (64 - 7 * (i + 1)) := Int.lt_of_mul_lt_mul_right hx (by omega)
              have h2 : ((x : Int) + 1) * (128 * 2 ^ (7 * i)) ≤ 2 ^ (64 - 7 * (i + 1)) * (128 * 2 ^ (7 * i)) := Int.mul_le_mul_of_nonneg_right (by omega) (by omega)
              rw [hp]
              have h3 : ((x : Int) + 1) * (128 * 2 ^ (7 * i)) = x * (128 * 2 ^ (7 * i)) + 128 * 2 ^ (7 * i) := by rw [Int.add_mul, Int.one_mul]
              omega
            · omega
          · rw [hnum, hk]; simp; omega
          · rw [hnum, hr]; rfl
/-- What is read is the form of it. -/
theorem fstG_form (D : List Int) (z k : Int) (hB : Byts D) (h : fstG D 0 0 = (z, k, 0)) :
    ∃ x : Nat, z = x ∧ x < 18446744073709551616 ∧ k = ((numL x).length : Int) ∧ ∃ rest, D = numL x ++ rest := by
  obtain ⟨x, h1, h2, _, h4, rest, h5⟩ := fstG_inv D 0 0 z k hB (by omega) h
  refine ⟨x, by simpa using h1, ?_, by simpa [numL] using h4, rest, by simpa [numL] using h5⟩
  simp at h2; omega
end Go.Proofs.Ytbkboebinhafhaa
