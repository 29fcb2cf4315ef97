import Derived.Test.YtollbkibocdbmaaStep
import Derived.Test.YtollbkibocdbmaaScr
namespace Go.Proofs.Ytollbkibocdbmaa
open Go.RowKit

theorem blk_type {w : World} {k : Nat} {T T' : TypeId} {cs cs' : Array Value} (h : Blk w k T cs) (h' : Blk w k T' cs') : T = T' := by
  unfold Blk at h h'; rw [h] at h'; simp at h'; exact h'.2
theorem owns_grown33 {a b : World} {S : Nat → Prop} {base : Nat} {v : Value} {n : Nat} {xs : List Value} (h : a.ownsRow base 33 1 v n xs) (hg : Grown a b S) (hs : ∀ k cs, Blk a k 33 cs → ¬ S k) : b.ownsRow base 33 1 v n xs := by
  refine ⟨h.1, ?_⟩
  rcases h.2 with h1 | ⟨g, cap, cur, rfl, h2, h3, h4⟩
  · exact .inl h1
  · exact .inr ⟨g, cap, cur, rfl, h2, hg.blk h3 (hs g cur h3), h4⟩

def updN {α : Type} (f : Nat → α) (k : Nat) (x : α) : Nat → α := fun i => if i = k then x else f i
theorem updN_self {α : Type} (f : Nat → α) (k : Nat) (x : α) : updN f k x k = x := by simp [updN]
theorem updN_ne {α : Type} (f : Nat → α) {k i : Nat} (x : α) (h : i ≠ k) : updN f k x i = f i := by simp [updN, h]

/-- All books, and the list of them. -/
structure BooksAt (lv : Value) (N : Nat) (p g : Nat → Nat) (V : Nat → Value) (b : Nat → List Int) (tot : Nat) (w0 w : World) : Prop where
  list : w.ownsRow w0.heap.size 33 1 lv N ((List.range N).map fun i => ptr (p i))
  book : ∀ i, i < N → BookAt w0.heap.size (p i) (g i) (V i) (b i) w
  low : ∀ i, i < N → w0.heap.size ≤ p i ∧ w0.heap.size ≤ g i
  injp : ∀ i j, i < N → j < N → p i = p j → i = j
  injg : ∀ i j, i < N → j < N → g i = g j → i = j
  len : ∀ i, i < N → (b i).length ≤ tot
  below : Below w0.heap.size w0 w
  pos : 0 < N

theorem BooksAt.later {lv : Value} {N : Nat} {p g : Nat → Nat} {V : Nat → Value} {b : Nat → List Int} {tot tot' : Nat} {w0 w w' : World} (h : BooksAt lv N p g V b tot w0 w) (hb : Below w.heap.size w w') (ht : tot ≤ tot') : BooksAt lv N p g V b tot' w0 w' where
  list := owns_grown33 h.list (Grown.below (S := fun _ => False) hb) (fun _ _ _ h => h)
  book i hi := (h.book i hi).below hb
  low := h.low
  injp := h.injp
  injg := h.injg
  len i hi := Nat.le_trans (h.len i hi) ht
  below := h.below.trans (hb.mono h.below.size)
  pos := h.pos

theorem BooksAt.step {lv : Value} {N : Nat} {p g : Nat → Nat} {V : Nat → Value} {b : Nat → List Int} {tot nb k : Nat} {w0 w w' : World} {e : Ending} (h : BooksAt lv N p g V b tot w0 w) (hk : k < N) (hs : StepPost w0.heap.size (p k) (g k) nb w e w') (ht : tot ≤ nb) :
    e = .returned (.bool true) ∧ ∃ V' b', BooksAt lv N p g V' b' nb w0 w' := by
  obtain ⟨rfl, v', b', h1, h2, h3, h4, h5⟩ := hs
  have hbk := h.book k hk
  refine ⟨rfl, updN V k v', updN b k b', ?_, ?_, h.low, h.injp, h.injg, ?_, ?_, h.pos⟩
  · refine owns_grown33 h.list h5 ?_
    rintro j cs hj (rfl | rfl)
    · exact absurd (blk_type hj hbk.book) (by decide)
    · exact absurd (blk_type hj hbk.dig) (by decide)
  · intro i hi
    by_cases hik : i = k
    · subst hik
      rw [updN_self, updN_self]
      exact ⟨h1, h2, h3⟩
    · rw [updN_ne _ _ hik, updN_ne _ _ hik]
      have hbi := h.book i hi
      refine ⟨h5.blk hbi.book ?_, h5.blk hbi.dig ?_, owns_grown hbi.row h5 ?_⟩
      · rintro (e | e)
        · exact hik (h.injp i k hi hk e)
        · have h6 := hbi.book; rw [e] at h6; exact absurd (blk_type h6 hbk.dig) (by decide)
      · rintro (e | e)
        · have h6 := hbi.dig; rw [e] at h6; exact absurd (blk_type h6 hbk.book) (by decide)
        · exact hik (h.injg i k hi hk e)
      · exact hbk.no5
  · intro i hi
    by_cases hik : i = k
    · subst hik; rw [updN_self]; exact h4
    · rw [updN_ne _ _ hik]; exact Nat.le_trans (h.len i hi) ht
  · refine h5.to_below h.below ?_ h.below.size
    rintro j hj (rfl | rfl)
    · have := (h.low k hk).1; omega
    · have := (h.low k hk).2; omega

theorem BooksAt.push {lv lv' : Value} {N P G : Nat} {p g : Nat → Nat} {V : Nat → Value} {b : Nat → List Int} {tot : Nat} {w0 w w' : World} {v : Value} {B : List Int} (h : BooksAt lv N p g V b tot w0 w) (hb : BookAt w0.heap.size P G v B w) (hP : w0.heap.size ≤ P) (hG : w0.heap.size ≤ G)
    (nP : ∀ i, i < N → p i ≠ P) (nG : ∀ i, i < N → g i ≠ G) (hB : B.length ≤ tot) (hg : w.grownBy w' lv.ownBlock) (ho : w'.ownsRow w0.heap.size 33 1 lv' (N + 1) (((List.range N).map fun i => ptr (p i)) ++ [ptr P])) :
    BooksAt lv' (N + 1) (updN p N P) (updN g N G) (updN V N v) (updN b N B) tot w0 w' := by
  have hS : ∀ k T cs, Blk w k T cs → T ≠ 33 → some k ≠ lv.ownBlock := by
    intro k T cs hk hT e
    rcases h.list.2 with ⟨rfl, _⟩ | ⟨j, cap, cur, rfl, _, h3, _⟩
    · simp [Value.ownBlock] at e
    · simp [Value.ownBlock] at e
      subst e
      exact hT (blk_type hk h3)
  have keep : ∀ k T cs, Blk w k T cs → T ≠ 33 → Blk w' k T cs := fun k T cs hk hT => by
    unfold Blk; rw [hg.block k hk.lt (hS k T cs hk hT)]; exact hk
  have keepB : ∀ {P G v B}, BookAt w0.heap.size P G v B w → BookAt w0.heap.size P G v B w' := fun {P G v B} hh =>
    ⟨keep _ _ _ hh.book (by decide), keep _ _ _ hh.dig (by decide), by
      refine ⟨hh.row.1, ?_⟩
      rcases hh.row.2 with h1 | ⟨j, cap, cur, rfl, h2, h3, h4⟩
      · exact .inl h1
      · exact .inr ⟨j, cap, cur, rfl, h2, keep _ _ _ h3 (by decide), h4⟩⟩
  refine ⟨?_, ?_, ?_, ?_, ?_, ?_, ?_, by omega⟩
  · have e : ((List.range (N + 1)).map fun i => ptr (updN p N P i)) = ((List.range N).map fun i => ptr (p i)) ++ [ptr P] := by
      rw [List.range_succ, List.map_append]
      congr 1
      · apply List.map_congr_left
        intro i hi
        rw [updN_ne]
        have := List.mem_range.1 hi
        omega
      · simp [updN_self]
    rw [e]; exact ho
  · intro i hi
    by_cases hik : i = N
    · subst hik; simp only [updN_self]; exact keepB hb
    · simp only [updN_ne _ _ hik]; exact keepB (h.book i (by omega))
  · intro i hi
    by_cases hik : i = N
    · subst hik; simp only [updN_self]; exact ⟨hP, hG⟩
    · simp only [updN_ne _ _ hik]; exact h.low i (by omega)
  · intro i j hi hj e
    by_cases hik : i = N <;> by_cases hjk : j = N
    · omega
    · subst hik; rw [updN_self, updN_ne _ _ hjk] at e; exact absurd e.symm (nP j (by omega))
    · subst hjk; rw [updN_self, updN_ne _ _ hik] at e; exact absurd e (nP i (by omega))
    · rw [updN_ne _ _ hik, updN_ne _ _ hjk] at e; exact h.injp i j (by omega) (by omega) e
  · intro i j hi hj e
    by_cases hik : i = N <;> by_cases hjk : j = N
    · omega
    · subst hik; rw [updN_self, updN_ne _ _ hjk] at e; exact absurd e.symm (nG j (by omega))
    · subst hjk; rw [updN_self, updN_ne _ _ hik] at e; exact absurd e (nG i (by omega))
    · rw [updN_ne _ _ hik, updN_ne _ _ hjk] at e; exact h.injg i j (by omega) (by omega) e
  · intro i hi
    by_cases hik : i = N
    · subst hik; rw [updN_self]; exact hB
    · rw [updN_ne _ _ hik]; exact h.len i (by omega)
  · exact h.below.grown hg h.below.size (fun k e => (h.list.lt k e).1)
end Go.Proofs.Ytollbkibocdbmaa
