import Derived.Test.YtbbhjgflaiacaaaOrdB
import Derived.Test.YtbbhjgflaiacaaaTexts
import Derived.Test.YtbbhjgflaiacaaaHashRead
import Derived.Deep.MidRow
import Derived.Deep.RegionHeld3
namespace Go.Proofs.Ytbbhjgflaiacaaa
open Go.RowKit Go.Sort

/-- A hash's cells. -/
def encH (h : Hs) : List Value := (bytesA 32 h.f).toList
theorem encH_len (h : Hs) : (encH h).length = 32 := by rw [encH, Array.length_toList, bytesA_size]
theorem encH_get (h : Hs) (j : Nat) (hj : j < 32) : (encH h)[j]? = some (.int .u8 (h.f j)) := by rw [encH, Array.getElem?_toList, bytesA_get _ _ _ hj]
theorem encH_one (h : Hs) (v : Value) (hv : v ∈ encH h) : v.oneCell' = true := by
  have := Array.all_eq_true'.1 (bytesA_one 32 h.f) v (by unfold encH at hv; exact Array.mem_toList_iff.1 hv)
  simpa using this
theorem encH_arr (h : Hs) : (encH h).toArray = bytesA 32 h.f := by rw [encH, Array.toArray_toList]
/-- The cells of hashes, one behind the other. -/
def flatH (L : List Hs) : List Value := L.flatMap encH
theorem flatH_nil : flatH [] = [] := rfl
theorem flatH_cons (x : Hs) (L : List Hs) : flatH (x :: L) = encH x ++ flatH L := rfl
theorem flatH_app (L M : List Hs) : flatH (L ++ M) = flatH L ++ flatH M := by simp [flatH]
theorem flatH_len : ∀ L : List Hs, (flatH L).length = L.length * 32
  | [] => rfl
  | x :: L => by rw [flatH_cons, List.length_append, encH_len, flatH_len L, List.length_cons]; omega
theorem flatH_get : ∀ (L : List Hs) (i : Nat) (hi : i < L.length) (j : Nat), j < 32 → (flatH L)[i * 32 + j]? = (encH L[i])[j]?
  | x :: L, 0, _, j, hj => by rw [flatH_cons, List.getElem?_append_left (by rw [encH_len]; omega)]; simp
  | x :: L, i + 1, hi, j, hj => by
    rw [flatH_cons, List.getElem?_append_right (by rw [encH_len]; omega), encH_len, show (i + 1) * 32 + j - 32 = i * 32 + j by omega]
    simpa using flatH_get L i (by simpa using hi) j hj
theorem flatH_one (L : List Hs) (v : Value) (hv : v ∈ flatH L) : v.oneCell' = true := by
  obtain ⟨x, _, hx⟩ := List.mem_flatMap.1 hv
  exact encH_one x v hx

/-- A slice of hashes: what it holds. -/
def HRow (w : World) (v : Value) (L : List Hs) : Prop :=
  (∃ a c, v = .slice a 0 c ∧ L = [] ∧ (a = none → c = 0)) ∨ ∃ b off cap, v = .slice (some ⟨b, off, none⟩) L.length cap ∧ L.length ≤ cap ∧ w.rangeAt b off (flatH L)
theorem rangeAt_elem {w : World} {b off : Nat} {L : List Hs} (h : w.rangeAt b off (flatH L)) (i : Nat) (hi : i < L.length) : w.rangeAt b (off + i * 32) (encH L[i]) := by
  intro j v hv
  have hj : j < 32 := by
    have := (List.getElem?_eq_some_iff.1 hv).1
    rwa [encH_len] at this
  rw [Nat.add_assoc]
  exact h _ v (by rw [flatH_get L i hi j hj]; exact hv)
theorem HRow.form {w : World} {v : Value} {L : List Hs} (h : HRow w v L) : ∃ a c, v = .slice a L.length c := by
  rcases h with ⟨a, c, rfl, rfl, _⟩ | ⟨b, off, cap, rfl, _⟩
  · exact ⟨a, c, rfl⟩
  · exact ⟨_, cap, rfl⟩
theorem HRow.at {w : World} {a : Option Addr} {n c : Nat} {L : List Hs} (h : HRow w (.slice a n c) L) (hL : 0 < L.length) : ∃ b off, a = some ⟨b, off, none⟩ ∧ n = L.length ∧ L.length ≤ c ∧ w.rangeAt b off (flatH L) := by
  rcases h with ⟨_, _, _, rfl, _⟩ | ⟨b, off, cap, h1, h2, h3⟩
  · simp at hL
  · injection h1 with h1 h4 h5
    subst h1 h4 h5
    exact ⟨b, off, rfl, rfl, h2, h3⟩
theorem rangeAt_lt {w : World} {b off : Nat} {L : List Hs} (h : w.rangeAt b off (flatH L)) (hL : 0 < L.length) : b < w.heap.size := by
  have := h 0 (.int .u8 (L[0].f 0)) ((flatH_get L 0 hL 0 (by omega)).trans (encH_get _ _ (by omega)))
  exact cell_lt this
theorem rangeAt_below {w w' : World} {B b off : Nat} {cs : List Value} (h : w.rangeAt b off cs) (hb : Below B w w') (hlt : b < B) : w'.rangeAt b off cs := fun j v hv => by
  rw [hb.cell (p := ⟨b, off + j, none⟩) hlt]; exact h j v hv
theorem HRow.below {w w' : World} {v : Value} {L : List Hs} (h : HRow w v L) (hb : Below w.heap.size w w') : HRow w' v L := by
  rcases h with h | ⟨b, off, cap, h1, h2, h3⟩
  · exact .inl h
  · by_cases hL : 0 < L.length
    · exact .inr ⟨b, off, cap, h1, h2, rangeAt_below h3 hb (rangeAt_lt h3 hL)⟩
    · have : L = [] := List.eq_nil_of_length_eq_zero (by omega)
      subst this
      exact .inl ⟨_, _, h1, rfl, fun h => by cases h⟩
theorem HRow.of_owns {w : World} {base n : Nat} {v : Value} {L : List Hs} (h : w.ownsRow base 23 32 v n (flatH L)) : HRow w v L := by
  have hn : n = L.length := by have := h.1; rw [flatH_len] at this; omega
  subst hn
  rcases h.2 with ⟨rfl, h0⟩ | ⟨g, cap, cur, rfl, _, hg, hc, _, _, ht⟩
  · exact .inl ⟨none, 0, rfl, List.eq_nil_of_length_eq_zero h0, fun _ => rfl⟩
  · refine .inr ⟨g, 0, cap, rfl, hc, fun j v hv => ?_⟩
    rw [Nat.zero_add, cell_of_row w g j cur 23 (0, 0) hg]
    rw [← ht, List.getElem?_take] at hv
    split at hv
    · rwa [Array.getElem?_toList] at hv
    · cases hv
theorem Try.size23L (h : Hs) : (Try.prog.info? 23).map (·.size) = some (encH h).length := by rw [encH_len]; exact Try.size23

/-- The lists are the same. -/
def same (L M : List Hs) : Bool := decide (L = M)
end Go.Proofs.Ytbbhjgflaiacaaa
