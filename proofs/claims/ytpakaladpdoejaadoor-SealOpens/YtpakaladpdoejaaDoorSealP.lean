import Derived.Test.YtpakaladpdoejaaDoorMacR
namespace Go.Proofs.YtpakaladpdoejaaDoor
open Go.RowKit

/-- May a replica have this number? -/
abbrev okN (n : Int) : Prop := 1 ≤ n ∧ n ≤ 8
def hdrL (f t : Int) (n : Nat) : List Int := [80, 76, 69, 49, f, t, (n : Int) % 256, (n : Int) / 256 % 256, (n : Int) / 65536 % 256, (n : Int) / 16777216 % 256]
def sealB (f t : Int) (body : List Int) : List Int := hdrL f t body.length ++ body
/-- A sealed message. -/
def sealL (key : List Int) (f t : Int) (body : List Int) : List Int := sealB f t body ++ hl 32 (macP key (sealB f t body))
/-- Why it can't be sealed. -/
def sealW (key : List Int) (f t : Int) (body : List Int) : Int := if key.length ≠ 32 ∨ ¬ okN f ∨ ¬ okN t then 1 else if 2097152 < body.length then 4 else 0
def markL : List Int := [80, 76, 69, 49]
/-- What is wrong at one of the first six bytes. -/
def stepE (b : List Int) (i : Nat) : Option (Int × Int) :=
  if b.length ≤ i then some (20, (i : Int)) else if i < 4 ∧ b.getD i 0 ≠ markL.getD i 0 then some (5, (i : Int)) else if 4 ≤ i ∧ ¬ okN (b.getD i 0) then some (1, (i : Int)) else none
def headE (b : List Int) : Option (Int × Int) := (List.range 6).findSome? (stepE b)
def lenN (b : List Int) : Nat := (b.getD 6 0 + 256 * b.getD 7 0 + 65536 * b.getD 8 0 + 16777216 * b.getD 9 0).toNat
abbrev macE (key b : List Int) (n : Nat) : Prop := b.drop (n + 10) = hl 32 (macP key (b.take (n + 10)))
/-- What is wrong with a sealed message, and where. -/
def openE (key b : List Int) : Int × Int :=
  if key.length ≠ 32 then (1, -1) else
  match headE b with
  | some e => e
  | none =>
    if b.length < 10 then (20, 6) else if 2097152 < lenN b then (22, 6) else if b.length < lenN b + 42 then (20, 10) else if lenN b + 42 < b.length then (23, (lenN b : Int) + 42)
    else if macE key b (lenN b) then (0, 0) else (30, (lenN b : Int) + 10)
def openB (b : List Int) : List Int := (b.drop 10).take (lenN b)

theorem stepE_none {b : List Int} {i : Nat} : stepE b i = none ↔ i < b.length ∧ (i < 4 → b.getD i 0 = markL.getD i 0) ∧ (4 ≤ i → okN (b.getD i 0)) := by
  unfold stepE
  by_cases h1 : b.length ≤ i
  · rw [if_pos h1]; simp; omega
  · rw [if_neg h1]
    by_cases h2 : i < 4 ∧ b.getD i 0 ≠ markL.getD i 0
    · rw [if_pos h2]; simp only [reduceCtorEq, false_iff]; exact fun h => h2.2 (h.2.1 h2.1)
    · rw [if_neg h2]
      by_cases h3 : 4 ≤ i ∧ ¬ okN (b.getD i 0)
      · rw [if_pos h3]; simp only [reduceCtorEq, false_iff]; exact fun h => h3.2 (h.2.2 h3.1)
      · rw [if_neg h3]
        simp only [true_iff]
        exact ⟨by omega, fun h => Classical.byContradiction fun hn => h2 ⟨h, hn⟩, fun h => Classical.byContradiction fun hn => h3 ⟨h, hn⟩⟩
theorem headE_none {b : List Int} : headE b = none ↔ ∀ i, i < 6 → stepE b i = none := by
  unfold headE
  rw [List.findSome?_eq_none_iff]
  simp [List.mem_range]
theorem stepE_ne {b : List Int} {i : Nat} {e : Int × Int} (h : stepE b i = some e) : e.1 ≠ 0 := by
  unfold stepE at h
  split at h
  · cases h; show (20 : Int) ≠ 0; decide
  · split at h
    · cases h; show (5 : Int) ≠ 0; decide
    · split at h
      · cases h; show (1 : Int) ≠ 0; decide
      · cases h
theorem headE_ne {b : List Int} {e : Int × Int} (h : headE b = some e) : e.1 ≠ 0 := by
  unfold headE at h
  obtain ⟨i, _, h2⟩ := List.exists_of_findSome?_eq_some h
  exact stepE_ne h2
/-- What is taken. -/
theorem openE_0 {key b : List Int} (h : (openE key b).1 = 0) : key.length = 32 ∧ headE b = none ∧ lenN b ≤ 2097152 ∧ b.length = lenN b + 42 ∧ macE key b (lenN b) := by
  unfold openE at h
  by_cases h1 : key.length ≠ 32
  · rw [if_pos h1] at h; exact absurd h (by decide)
  rw [if_neg h1] at h
  cases h2 : headE b with
  | some e => rw [h2] at h; exact absurd h (headE_ne h2)
  | none =>
    rw [h2] at h
    dsimp only at h
    by_cases h3 : b.length < 10
    · rw [if_pos h3] at h; exact absurd h (by decide)
    rw [if_neg h3] at h
    by_cases h4 : 2097152 < lenN b
    · rw [if_pos h4] at h; exact absurd h (by decide)
    rw [if_neg h4] at h
    by_cases h5 : b.length < lenN b + 42
    · rw [if_pos h5] at h; exact absurd h (by decide)
    rw [if_neg h5] at h
    by_cases h6 : lenN b + 42 < b.length
    · rw [if_pos h6] at h; exact absurd h (show (23 : Int) ≠ 0 by decide)
    rw [if_neg h6] at h
    by_cases h7 : macE key b (lenN b)
    · exact ⟨by omega, rfl, by omega, by omega, h7⟩
    · rw [if_neg h7] at h; exact absurd h (show (30 : Int) ≠ 0 by decide)
theorem openE_ok {key b : List Int} (h1 : key.length = 32) (h2 : headE b = none) (h4 : lenN b ≤ 2097152) (h5 : b.length = lenN b + 42) (h7 : macE key b (lenN b)) : openE key b = (0, 0) := by
  unfold openE
  rw [if_neg (by omega), h2]
  dsimp only
  rw [if_neg (by omega), if_neg (by omega), if_neg (by omega), if_neg (by omega), if_pos h7]
theorem sealB_len (f t : Int) (body : List Int) : (sealB f t body).length = body.length + 10 := by simp [sealB, hdrL]
theorem sealL_len (key : List Int) (f t : Int) (body : List Int) : (sealL key f t body).length = body.length + 42 := by
  unfold sealL; rw [List.length_append, sealB_len, hl_len]
theorem sealW_0 {key : List Int} {f t : Int} {body : List Int} (h : sealW key f t body = 0) : key.length = 32 ∧ okN f ∧ okN t ∧ body.length ≤ 2097152 := by
  unfold sealW at h
  by_cases h1 : key.length ≠ 32 ∨ ¬ okN f ∨ ¬ okN t
  · rw [if_pos h1] at h; exact absurd h (by decide)
  rw [if_neg h1] at h
  by_cases h2 : 2097152 < body.length
  · rw [if_pos h2] at h; exact absurd h (by decide)
  refine ⟨Classical.byContradiction fun hn => h1 (.inl hn), Classical.byContradiction fun hn => h1 (.inr (.inl hn)), Classical.byContradiction fun hn => h1 (.inr (.inr hn)), by omega⟩
theorem lenN_head (f t : Int) (n : Nat) (rest : List Int) (hn : n ≤ 2097152) : lenN (hdrL f t n ++ rest) = n := by
  unfold lenN
  have e6 : (hdrL f t n ++ rest).getD 6 0 = (n : Int) % 256 := rfl
  have e7 : (hdrL f t n ++ rest).getD 7 0 = (n : Int) / 256 % 256 := rfl
  have e8 : (hdrL f t n ++ rest).getD 8 0 = (n : Int) / 65536 % 256 := rfl
  have e9 : (hdrL f t n ++ rest).getD 9 0 = (n : Int) / 16777216 % 256 := rfl
  rw [e6, e7, e8, e9]
  omega
theorem head_ok (f t : Int) (n : Nat) (rest : List Int) (hf : okN f) (ht : okN t) : headE (hdrL f t n ++ rest) = none := by
  rw [headE_none]
  intro i hi
  rw [stepE_none]
  refine ⟨by simp [hdrL]; omega, fun h4 => ?_, fun h4 => ?_⟩
  · match i, h4 with
    | 0, _ => rfl
    | 1, _ => rfl
    | 2, _ => rfl
    | 3, _ => rfl
  · rcases (by omega : i = 4 ∨ i = 5) with rfl | rfl
    · exact hf
    · exact ht
/-- There and back. -/
theorem open_seal {key : List Int} {f t : Int} {body : List Int} (h : sealW key f t body = 0) : openE key (sealL key f t body) = (0, 0) ∧ lenN (sealL key f t body) = body.length ∧ openB (sealL key f t body) = body := by
  obtain ⟨h1, h2, h3, h4⟩ := sealW_0 h
  have e : sealL key f t body = hdrL f t body.length ++ (body ++ hl 32 (macP key (sealB f t body))) := by unfold sealL sealB; rw [List.append_assoc]
  have hn : lenN (sealL key f t body) = body.length := by rw [e]; exact lenN_head _ _ _ _ h4
  refine ⟨openE_ok h1 (by rw [e]; exact head_ok _ _ _ _ h2 h3) (by omega) (by rw [hn, sealL_len]) ?_, hn, ?_⟩
  · rw [hn]
    show List.drop (body.length + 10) _ = hl 32 (macP key (List.take (body.length + 10) _))
    rw [← sealB_len f t body]
    unfold sealL
    rw [List.drop_left, List.take_left]
  · unfold openB
    rw [hn, e, show (10 : Nat) = (hdrL f t body.length).length from rfl, List.drop_left, List.take_left]
/-- The head of what is taken. -/
theorem head_is {b : List Int} (hB : Byts b) (h : headE b = none) (hl : 10 ≤ b.length) : b.take 10 = hdrL (b.getD 4 0) (b.getD 5 0) (lenN b) ∧ okN (b.getD 4 0) ∧ okN (b.getD 5 0) := by
  rw [headE_none] at h
  have g : ∀ i, i < 6 → (i < 4 → b.getD i 0 = markL.getD i 0) ∧ (4 ≤ i → okN (b.getD i 0)) := fun i hi => ⟨((stepE_none.1 (h i hi)).2.1), (stepE_none.1 (h i hi)).2.2⟩
  refine ⟨?_, (g 4 (by decide)).2 (by decide), (g 5 (by decide)).2 (by decide)⟩
  have r : ∀ i, i < 10 → 0 ≤ b.getD i 0 ∧ b.getD i 0 < 256 := fun i hi => by
    rw [List.getD_eq_getElem?_getD, List.getElem?_eq_getElem (by omega), Option.getD_some]
    exact hB _ (List.getElem_mem _)
  have m0 := (g 0 (by decide)).1 (by decide)
  have m1 := (g 1 (by decide)).1 (by decide)
  have m2 := (g 2 (by decide)).1 (by decide)
  have m3 := (g 3 (by decide)).1 (by decide)
  have r6 := r 6 (by decide)
  have r7 := r 7 (by decide)
  have r8 := r 8 (by decide)
  have r9 := r 9 (by decide)
  have en : ((lenN b : Nat) : Int) = b.getD 6 0 + 256 * b.getD 7 0 + 65536 * b.getD 8 0 + 16777216 * b.getD 9 0 := by unfold lenN; omega
  have e10 : b.take 10 = [b.getD 0 0, b.getD 1 0, b.getD 2 0, b.getD 3 0, b.getD 4 0, b.getD 5 0, b.getD 6 0, b.getD 7 0, b.getD 8 0, b.getD 9 0] := by
    match b, hl with
    | a0 :: a1 :: a2 :: a3 :: a4 :: a5 :: a6 :: a7 :: a8 :: a9 :: r, _ => rfl
  rw [e10]
  unfold hdrL
  rw [m0, m1, m2, m3, en, show (b.getD 6 0 + 256 * b.getD 7 0 + 65536 * b.getD 8 0 + 16777216 * b.getD 9 0) % 256 = b.getD 6 0 by omega, show (b.getD 6 0 + 256 * b.getD 7 0 + 65536 * b.getD 8 0 + 16777216 * b.getD 9 0) / 256 % 256 = b.getD 7 0 by omega, show (b.getD 6 0 + 256 * b.getD 7 0 + 65536 * b.getD 8 0 + 16777216 * b.getD 9 0) / 65536 % 256 = b.getD 8 0 by omega, show (b.getD 6 0 + 256 * b.getD 7 0 + 65536 * b.getD 8 0 + 16777216 * b.getD 9 0) / 16777216 % 256 = b.getD 9 0 by omega]
  rfl
/-- What Open takes Seal tells. -/
theorem seal_open {key b : List Int} (hB : Byts b) (h : (openE key b).1 = 0) : sealW key (b.getD 4 0) (b.getD 5 0) (openB b) = 0 ∧ sealL key (b.getD 4 0) (b.getD 5 0) (openB b) = b := by
  obtain ⟨h1, h2, h3, h4, h5⟩ := openE_0 h
  obtain ⟨e10, hf, ht⟩ := head_is hB h2 (by omega)
  have hlb : (openB b).length = lenN b := by unfold openB; rw [List.length_take, List.length_drop]; omega
  have hsb : sealB (b.getD 4 0) (b.getD 5 0) (openB b) = b.take (lenN b + 10) := by
    unfold sealB
    rw [hlb, ← e10]
    unfold openB
    rw [show lenN b + 10 = 10 + lenN b by omega, List.take_add]
  refine ⟨?_, ?_⟩
  · unfold sealW
    rw [if_neg (by rintro (h | h | h) <;> first | exact h h1 | exact h hf | exact h ht), if_neg (by omega)]
  · unfold sealL
    rw [hsb, ← h5, List.take_append_drop]
/-- Cut short it is none. -/
theorem open_cut {key b : List Int} (h : (openE key b).1 = 0) (i : Nat) (hi : i < b.length) : (openE key (b.take i)).1 ≠ 0 := by
  intro h0
  obtain ⟨h1, h2, h3, h4, h5⟩ := openE_0 h
  obtain ⟨k1, k2, k3, k4, k5⟩ := openE_0 h0
  have hl : (b.take i).length = i := by rw [List.length_take]; omega
  have hn : lenN (b.take i) = lenN b := by
    unfold lenN
    have g : ∀ j, j < 10 → (b.take i).getD j 0 = b.getD j 0 := fun j hj => by
      rw [List.getD_eq_getElem?_getD, List.getElem?_take, if_pos (by omega), ← List.getD_eq_getElem?_getD]
    rw [g 6 (by decide), g 7 (by decide), g 8 (by decide), g 9 (by decide)]
  omega
/-- Followed by more it is none. -/
theorem open_more {key b more : List Int} (h : (openE key b).1 = 0) : (openE key (b ++ more)).1 = 0 ↔ more = [] := by
  constructor
  · intro h0
    obtain ⟨h1, h2, h3, h4, h5⟩ := openE_0 h
    obtain ⟨k1, k2, k3, k4, k5⟩ := openE_0 h0
    have hn : lenN (b ++ more) = lenN b := by
      unfold lenN
      have g : ∀ j, j < 10 → (b ++ more).getD j 0 = b.getD j 0 := fun j hj => by
        rw [List.getD_eq_getElem?_getD, List.getElem?_append_left (by omega), ← List.getD_eq_getElem?_getD]
      rw [g 6 (by decide), g 7 (by decide), g 8 (by decide), g 9 (by decide)]
    rw [List.length_append, hn] at k4
    exact List.eq_nil_of_length_eq_zero (by omega)
  · rintro rfl; rwa [List.append_nil]
/-- Of which one byte is another: two rows have one Mac. -/
theorem open_turned {key b c : List Int} (h : (openE key b).1 = 0) (n : Nat) (x : Int) (hc : c = b.set n x) (h0 : (openE key c).1 = 0) : hl 32 (macP key (b.take (b.length - 32))) = hl 32 (macP key (c.take (c.length - 32))) := by
  obtain ⟨h1, h2, h3, h4, h5⟩ := openE_0 h
  obtain ⟨k1, k2, k3, k4, k5⟩ := openE_0 h0
  have hl : c.length = b.length := by rw [hc, List.length_set]
  have e1 : lenN c = lenN b := by omega
  rw [show b.length - 32 = lenN b + 10 by omega, show c.length - 32 = lenN b + 10 by omega]
  by_cases hn : n < lenN b + 10
  · have e2 : c.drop (lenN b + 10) = b.drop (lenN b + 10) := by rw [hc, List.drop_set_of_lt hn]
    rw [← h5, ← e2, ← e1]; exact k5
  · have e2 : c.take (lenN b + 10) = b.take (lenN b + 10) := by rw [hc, List.take_set_of_le (by omega)]
    rw [e2]
end Go.Proofs.YtpakaladpdoejaaDoor
