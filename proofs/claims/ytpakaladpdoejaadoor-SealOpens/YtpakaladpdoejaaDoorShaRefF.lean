import Derived.Test.YtpakaladpdoejaaDoorShaRefE
import Derived.Test.YtpakaladpdoejaaDoorShaAbc
namespace Go.Proofs.YtpakaladpdoejaaDoor
open Go.RowKit

/-! The document's hash is the program's. -/
theorem sched_congr {p q : Nat → Int} (hp : ∀ i, i < 64 → p i = q i) (t : Nat) (ht : t ≤ 64) : sched p t = sched q t := by
  induction t with
  | zero => rfl
  | succ t ih =>
    have e := ih (by omega)
    simp only [sched, e]
    by_cases h16 : t < 16
    · rw [if_pos h16, if_pos h16, be32_congr h16 hp]
    · rw [if_neg h16, if_neg h16]
theorem mixF_congr {s p q : Nat → Int} (hp : ∀ i, i < 64 → p i = q i) : mixF s p = mixF s q := by
  unfold mixF; rw [sched_congr hp 64 (Nat.le_refl _)]

theorem absorb_pieces (L : List Int) (m : Nat) (hm : 64 * m ≤ L.length) : (absorbL dg0 (L.take (64 * m))).s = refUp L m ∧ (absorbL dg0 (L.take (64 * m))).n = 64 * m := by
  induction m with
  | zero => exact ⟨rfl, rfl⟩
  | succ m ih =>
    obtain ⟨i1, i2⟩ := ih (by omega)
    have hn : (absorbL dg0 (L.take (64 * (m + 1)))).n = 64 * (m + 1) := by rw [absorbL_n, List.length_take]; show 0 + _ = _; omega
    refine ⟨?_, hn⟩
    have hsp : L.take (64 * (m + 1)) = L.take (64 * m) ++ (L.drop (64 * m)).take 64 := by
      rw [show 64 * (m + 1) = 64 * m + 64 by omega, List.take_add]
    have hl : ((L.drop (64 * m)).take 64).length = 64 := by rw [List.length_take, List.length_drop]; omega
    rw [hsp, absorbL_append, ← absorbN_all, hl, absorb_chunk _ _ 64 (by rw [i2]; omega)]
    dsimp only
    rw [i2, if_pos (by omega), i1]
    simp only [refUp]
    apply mixF_congr
    intro j hj
    simp only [putN]
    rw [if_pos (by omega)]
    have e : j - 64 * m % 64 = j := by omega
    rw [e, List.getD_eq_getElem?_getD, List.getElem?_take, if_pos hj, List.getElem?_drop, ← List.getD_eq_getElem?_getD]

theorem lay_same (s : Nat → Int) (i : Nat) (hi : i < 32) : layR s 32 i = layUp s 8 i := by
  have h : ∀ (k : Fin 32) (s : Nat → Int), layR s 32 k.val = s (k.val / 4) / 2 ^ (24 - 8 * (k.val % 4)) % 256 := by
    intro k s
    obtain ⟨k, hk⟩ := k
    have g : ∀ n, k < n → layR s n k = s (k / 4) / 2 ^ (24 - 8 * (k % 4)) % 256 := by
      intro n hn
      induction n with
      | zero => omega
      | succ n ih =>
        simp only [layR, upd]
        by_cases e : k = n
        · rw [if_pos e, e]
        · rw [if_neg e]; exact ih (by omega)
    exact g 32 hk
  rw [h ⟨i, hi⟩ s]
  match i, hi with
  | 0, _ => simp [layUp, upd]
  | 1, _ => simp [layUp, upd]
  | 2, _ => simp [layUp, upd]
  | 3, _ => simp [layUp, upd]
  | 4, _ => simp [layUp, upd]
  | 5, _ => simp [layUp, upd]
  | 6, _ => simp [layUp, upd]
  | 7, _ => simp [layUp, upd]
  | 8, _ => simp [layUp, upd]
  | 9, _ => simp [layUp, upd]
  | 10, _ => simp [layUp, upd]
  | 11, _ => simp [layUp, upd]
  | 12, _ => simp [layUp, upd]
  | 13, _ => simp [layUp, upd]
  | 14, _ => simp [layUp, upd]
  | 15, _ => simp [layUp, upd]
  | 16, _ => simp [layUp, upd]
  | 17, _ => simp [layUp, upd]
  | 18, _ => simp [layUp, upd]
  | 19, _ => simp [layUp, upd]
  | 20, _ => simp [layUp, upd]
  | 21, _ => simp [layUp, upd]
  | 22, _ => simp [layUp, upd]
  | 23, _ => simp [layUp, upd]
  | 24, _ => simp [layUp, upd]
  | 25, _ => simp [layUp, upd]
  | 26, _ => simp [layUp, upd]
  | 27, _ => simp [layUp, upd]
  | 28, _ => simp [layUp, upd]
  | 29, _ => simp [layUp, upd]
  | 30, _ => simp [layUp, upd]
  | 31, _ => simp [layUp, upd]
  | n + 32, h => omega

theorem sha_same (l : List Int) : bytesA 32 (layR (refUp (padI l) (piecesN l.length)) 32) = bytesA 32 (shaP l) := by
  rw [bytesA_congr (d := layUp (refUp (padI l) (piecesN l.length)) 8) (fun i hi => lay_same _ i hi)]
  have h := (absorb_pieces (padI l) (piecesN l.length) (by rw [pad_len]; exact Nat.le_refl _)).1
  rw [← pad_len, List.take_length] at h
  have hn : (absorbL dg0 l).n = l.length := by rw [absorbL_n]; show 0 + _ = _; omega
  unfold shaP sumF
  rw [← h, hn]
  have e : absorbL dg0 (padI l) = absorbN (absorbL dg0 l) (endX l.length) (zerosF l.length + 9) := by
    rw [padI, absorbL_append, ← absorbN_all, endZ_len]
    have : ∀ (d : Dg) (k : Nat), k ≤ zerosF l.length + 9 → absorbN d (fun i => (endZ l.length).getD i 0) k = absorbN d (endX l.length) k := by
      intro d k hk
      induction k with
      | zero => rfl
      | succ k ih =>
        simp only [absorbN]
        rw [ih (by omega)]
        simp [endZ, List.getD, show k < zerosF l.length + 9 by omega]
    exact this _ _ (Nat.le_refl _)
  rw [e]
/-- The document's Of. -/
theorem refOf_sha (v : Value) (l : List Int) (w : World) (hrow : RowAt w v l) (hl : l.length ≤ 140737488355000) :
    Calls Tryd.prog 22 #[v] w fun e w' => e = .returned (.agg (bytesA 32 (shaP l))) ∧ Below w.heap.size w w' := by
  rw [← sha_same]; exact refOf_any v l w hrow hl
end Go.Proofs.YtpakaladpdoejaaDoor
