import Derived.Test.YtogmdfhicbmplaaB13
import Derived.Test.YtogmdfhicbmplaaB11
namespace Go.Proofs.Ytogmdfhicbmplaa
open Go.RowKit
set_option linter.unusedSimpArgs false
set_option linter.unusedVariables false

def encO (o : OP) : List Value := (opA o).toList
theorem encO_len (o : OP) : (encO o).length = 68 := by rw [encO, Array.length_toList, opA_size]
/-- v is a slice of these steps. -/
def ORow (w : World) (v : Value) (S : List OP) : Prop :=
  ((∃ a c, v = .slice a 0 c ∧ S = []) ∨ ∃ b off c, v = .slice (some ⟨b, off, none⟩) S.length c ∧ S.length ≤ c ∧ w.rangeAt b off (S.flatMap encO)) ∧ ∀ o ∈ S, HRow w o.q.2 o.q.1.ps ∧ o.q.1.ps.length ≤ 4398046511104
theorem ORow.form {w : World} {v : Value} {S : List OP} (h : ORow w v S) : ∃ a c, v = .slice a S.length c := by
  rcases h.1 with ⟨a, c, rfl, rfl⟩ | ⟨b, off, c, rfl, _⟩
  · exact ⟨a, c, rfl⟩
  · exact ⟨_, c, rfl⟩
theorem opA_k0 {w : World} {b off : Nat} {o : OP} (h : w.rangeAt b off (encO o)) : w.cell? ⟨b, off, none⟩ = some (.int .i64 o.k) := by
  have := h 0 (.int .i64 o.k) (by unfold encO opA; rw [Array.toList_append, Array.toList_append, List.append_assoc]; rfl)
  exact this
theorem ORow.at {w : World} {a : Option Addr} {n c : Nat} {S : List OP} (h : ORow w (.slice a n c) S) (hL : 0 < S.length) : ∃ b off, a = some ⟨b, off, none⟩ ∧ b < w.heap.size ∧ w.rangeAt b off (S.flatMap encO) := by
  rcases h.1 with ⟨a, c, _, rfl⟩ | ⟨b, off, c, e, h1, h2⟩
  · simp at hL
  · injection e with e1 e2 e3
    subst e1 e3
    exact ⟨b, off, rfl, cell_lt (opA_k0 (flat_elem encO_len h2 0 hL)), h2⟩
end Go.Proofs.Ytogmdfhicbmplaa
