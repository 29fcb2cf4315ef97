import Derived.Test.YtbbhjgflaiacaaaOrdM
import Derived.ProofKit
import Derived.OpenShut
import Derived.Deep.Slices
import Derived.SizedLaws
namespace Go.Proofs.Ytbbhjgflaiacaaa
open Go.ChangeShapes Go.WideShapes Go.ChangeAt Go.RowKit Go.Deep

theorem Try.bytes23 : Try.prog.bytesOf 23 = 32 := by kernel_rfl

/-- Cells of hashes, one behind the other, are a row. -/
theorem rangeAt_of_elems {w : World} {b off : Nat} {L : List Hs} (h : ∀ i (hi : i < L.length), w.rangeAt b (off + i * 32) (encH L[i])) : w.rangeAt b off (flatH L) := by
  intro j v hv
  have hj : j < L.length * 32 := by have := (List.getElem?_eq_some_iff.1 hv).1; rwa [flatH_len] at this
  have hi : j / 32 < L.length := by omega
  have h1 := flatH_get L (j / 32) hi (j % 32) (by omega)
  rw [show j / 32 * 32 + j % 32 = j by omega, hv] at h1
  have h2 := h (j / 32) hi (j % 32) v h1.symm
  rwa [show off + j / 32 * 32 + j % 32 = off + j by omega] at h2

/-- A reading of a slice of hashes tells a row. -/
theorem hrow_of_trod {H : Type} {enc : TypeId × Value → H} {W : World} {sp : Nat → Bool} {held : Bool} {n base : Nat} {v : Value} {x : DataW H × List MemPlace} (hf : DataW.trod enc Try.prog W base sp held n 45 [v] = some x) :
    ∃ L : List Hs, HRow W v L ∧ (L = [] ∨ ∃ (D : Nat → DataW H) (rest : List (DataW H)), x.1 = .slice ((List.range L.length).map D) rest) := by
  rcases open_slice Try.underlying45 hf with ⟨hcs, _⟩ | ⟨a, len, cap, m, n, D, Pl, hcs, _, hl, hm, hz, hx, hcell⟩
  · simp at hcs
    subst hcs
    exact ⟨[], .inl ⟨none, 0, rfl, rfl, fun _ => rfl⟩, .inl rfl⟩
  · simp at hcs
    subst hcs
    have hlz : len ≤ m := by rw [hz]; split <;> omega
    by_cases h0 : len = 0
    · subst h0
      exact ⟨[], .inl ⟨some a, cap, rfl, rfl, fun h => by cases h⟩, .inl rfl⟩
    · have each0 : ∀ i, i < len → ∃ c : Nat → Int, (∀ j, j < 32 → 0 ≤ c j ∧ c j < 256) ∧ ∀ j, j < 32 → W.cell? ((a.add (i * 32)).add j) = some (.int .u8 (c j)) := by
        intro i hi
        obtain ⟨cs', h1, h2⟩ := hcell i (by omega)
        rw [Try.cells23] at h1
        obtain ⟨_, hlen, hce⟩ := World.cells?_some h1
        obtain ⟨c, hcs, hc⟩ := hash_of_trod h2
        refine ⟨c, hc, fun j hj => ?_⟩
        rw [hce j hj, hcs, Array.getElem?_toList, bytesA_get 32 c j hj]
      have hs : a.spot = none := by
        obtain ⟨c, _, h3⟩ := each0 0 (by omega)
        have h4 := h3 0 (by omega)
        rw [Nat.zero_mul, show (a.add 0).add 0 = a from rfl] at h4
        exact World.cell?_spot h4
      obtain ⟨b, off, sp⟩ := a
      obtain rfl : sp = none := hs
      have each : ∀ i, i < len → ∃ y : Hs, W.rangeAt b (off + i * 32) (encH y) := by
        intro i hi
        obtain ⟨c, hc, h3⟩ := each0 i hi
        refine ⟨Hs.mk' c hc, fun j v hv => ?_⟩
        have hj : j < 32 := by have := (List.getElem?_eq_some_iff.1 hv).1; rwa [encH_len] at this
        rw [encH_get _ _ hj, Hs.mk'_f _ _ _ hj] at hv
        have h4 := h3 j hj
        rw [Addr.add_mid, Addr.add_mid] at h4
        rw [h4]; exact hv
      obtain ⟨y, hy⟩ := Go.Deep.choose_lt each
      refine ⟨(List.range len).map y, .inr ⟨b, off, cap, by simp, by simpa using hl, rangeAt_of_elems fun i hi => ?_⟩, .inr ⟨D, (List.range (m - len)).map fun j => D (len + j), ?_⟩⟩
      · have hi' : i < len := by simpa using hi
        simpa using hy i hi'
      · rw [hx]; simp
end Go.Proofs.Ytbbhjgflaiacaaa
