import Derived.Test.YtpakaladpdoejaaDoorShaRefF
namespace Go.Proofs.YtpakaladpdoejaaDoor
open Go.RowKit

/-- The slice v holds the rows that V tells, as bytes. -/
structure RowsAt (w : World) (v : Value) (m : Nat) (V : Nat → Value) (rows : Nat → List Int) : Prop where
  form : (∃ a c, v = .slice a 0 c ∧ m = 0) ∨ ∃ q o cap, v = .slice (some ⟨q, o, none⟩) m cap ∧ ∀ i, i < m → w.cell? ⟨q, o + i, none⟩ = some (V i)
  row : ∀ i, i < m → RowAt w (V i) (rows i)
theorem RowsAt.below {w w' : World} {v : Value} {m : Nat} {V : Nat → Value} {rows : Nat → List Int} (h : RowsAt w v m V rows) (hb : Below w.heap.size w w') : RowsAt w' v m V rows where
  form := by
    rcases h.form with h1 | ⟨q, o, cap, h1, h2⟩
    · exact .inl h1
    · exact .inr ⟨q, o, cap, h1, fun i hi => by rw [hb.cell (p := ⟨q, o + i, none⟩) (cell_lt (h2 i hi))]; exact h2 i hi⟩
  row i hi := (h.row i hi).below hb

theorem rows_form {w : World} {v : Value} {m : Nat} {V : Nat → Value} {rows : Nat → List Int} (h : RowsAt w v m V rows) : ∃ a c, v = .slice a m c := by
  rcases h.form with ⟨a, c, rfl, rfl⟩ | ⟨q, o, cap, rfl, _⟩
  · exact ⟨_, _, rfl⟩
  · exact ⟨_, _, rfl⟩

/-- What Beyond tells. -/
def BeyPost (n : Nat) (w : World) (e : Ending) (w' : World) : Prop := ∃ bb, e = .returned (.bool bb) ∧ (bb = false → n ≤ 2147483647) ∧ w' = w

theorem owns_row {w : World} {base : Nat} {v : Value} {n : Nat} {L : List Int} (h : w.ownsRow base 5 1 v n (bv L)) : RowAt w v L := by
  have hl : L.length = n := by have := h.1; rw [bv_len] at this; omega
  have h' := h
  obtain ⟨_, h2⟩ := h
  rcases h2 with ⟨rfl, h0⟩ | ⟨g, cap, cur, rfl, hg, hh, hc, _⟩
  · exact .inl ⟨rfl, List.eq_nil_of_length_eq_zero (by omega)⟩
  · refine .inr <| .inr ⟨g, 0, cap, by rw [hl], by omega, fun i hi => ?_⟩
    rw [Nat.zero_add, h'.cellAt i (by omega), bv_get L i hi]

end Go.Proofs.YtpakaladpdoejaaDoor
