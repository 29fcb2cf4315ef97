import Derived.Test.YtpakaladpdoejaaDoorKitD
namespace Go.Proofs.YtpakaladpdoejaaDoor
open Go.RowKit

/-- A table of lists, each of which owns its bytes. -/
structure Fil (w0 : World) (gl m : Nat) (V : Nat → Value) (Ls : Nat → List Int) (w : World) : Prop where
  tab : Blk w gl 22 ((List.range m).map V).toArray
  own : ∀ j, j < m → OwnT w (V j) (Ls j)
  gr : Grown w0 w fun k => ∃ j, j < m ∧ (V j).ownBlock = some k
def Sep (m : Nat) (V : Nat → Value) : Prop := ∀ i j, i < m → j < m → i ≠ j → ∀ k, (V i).ownBlock = some k → (V j).ownBlock ≠ some k
theorem Fil.at {w0 w : World} {gl m : Nat} {V : Nat → Value} {Ls : Nat → List Int} (h : Fil w0 gl m V Ls w) {t : Nat} (ht : t < m) : w.cell? ⟨gl, t, none⟩ = some (V t) := by
  rw [h.tab.cell, List.getElem?_toArray]; simp [ht]
theorem Fil.set {w0 w : World} {gl m : Nat} {V : Nat → Value} {Ls : Nat → List Int} (h : Fil w0 gl m V Ls w) (hs : Sep m V) {t : Nat} (ht : t < m) {g n cap : Nat} (hv : V t = .slice (some ⟨g, 0, none⟩) n cap) (u : Nat) (c : Int) : Fil w0 gl m V (updN Ls t ((Ls t).set u c)) (w.setCell ⟨g, u, none⟩ (.int .u8 c)) := by
  have hg : (V t).ownBlock = some g := by rw [hv]; rfl
  have hO := h.own t ht
  have hgg : Grown w (w.setCell ⟨g, u, none⟩ (.int .u8 c)) fun k => k = g := Grown.setCell w g u _ fun _ => rfl
  refine ⟨hgg.blk h.tab fun e => ?_, fun j hj => ?_, h.gr.next hgg fun i _ e => ⟨t, ht, by rw [hg, e]⟩⟩
  · exact hO.ne h.tab (by decide) (by rw [hg, e])
  · by_cases e : j = t
    · subst e
      rw [updN_self, hv]
      rw [hv] at hO
      exact hO.set u c
    · rw [updN_ne _ _ e]
      exact (h.own j hj).grown hgg fun k hk e2 => hs t j ht hj (fun e3 => e e3.symm) g hg (by rw [hk, e2])
theorem Fil.more {w0 w w' : World} {gl m : Nat} {V : Nat → Value} {Ls : Nat → List Int} (h : Fil w0 gl m V Ls w) (hb : Below w.heap.size w w') : Fil w0 gl m V Ls w' :=
  ⟨h.tab.below hb h.tab.lt, fun j hj => (h.own j hj).grown (Grown.below (S := fun _ => False) hb) fun _ _ h => h, h.gr.next (Grown.below (S := fun _ => False) hb) fun _ _ h => h.elim⟩
/-- Some lists made longer. -/
structure Lng (w0 : World) (gl m : Nat) (V : Nat → Value) (n : Nat → Nat) (t : Nat) (lo : Value) (X : Nat → Value) (F : Nat → Prop) (w : World) : Prop where
  tab : Blk w gl 22 ((List.range m).map V).toArray
  own : ∀ j, t ≤ j → j < m → OwnT w (V j) (List.replicate (n j) ((j : Int) + 1))
  ra : ∀ j, j < t → RowAt w (V j) (List.replicate (n j) ((j : Int) + 1))
  rb : ∀ j, j < t → RowAt w (X j) (List.replicate (n j + 70) ((j : Int) + 1))
  fa : ∀ j, j < t → ∀ k, (V j).ownBlock = some k → F k
  fb : ∀ j, j < t → ∀ k, (X j).ownBlock = some k → F k
  fo : ∀ j, t ≤ j → j < m → ∀ k, (V j).ownBlock = some k → ¬ F k
  ft : ∀ k, F k → Typ w k 5
  lg : OwnV w lo ((List.range t).map X)
  lk : ∀ k, lo.ownBlock = some k → w0.heap.size ≤ k
  gl0 : gl < w0.heap.size
  gr : Grown w0 w fun k => ∃ j, j < m ∧ (V j).ownBlock = some k
theorem Lng.at {w0 w : World} {gl m : Nat} {V : Nat → Value} {n : Nat → Nat} {t : Nat} {lo : Value} {X : Nat → Value} {F : Nat → Prop} (h : Lng w0 gl m V n t lo X F w) {j : Nat} (hj : j < m) : w.cell? ⟨gl, j, none⟩ = some (V j) := by
  rw [h.tab.cell, List.getElem?_toArray]; simp [hj]
theorem Fil.lng {w0 w : World} {gl m : Nat} {V : Nat → Value} {n : Nat → Nat} (h : Fil w0 gl m V (fun j => List.replicate (n j) ((j : Int) + 1)) w) (h0 : gl < w0.heap.size) (hs : w0.heap.size ≤ w.heap.size) : Lng w0 gl m V n 0 (.slice (some ⟨w.heap.size, 0, none⟩) 0 0) (fun _ => .nilIface) (fun _ => False) (w.alloc (.cells #[] 22)) := by
  have h1 := h.more (below_new w (.cells #[] 22))
  refine ⟨h1.tab, fun j _ hj => h1.own j hj, fun j hj => by omega, fun j hj => by omega, fun j hj => by omega, fun j hj => by omega, fun _ _ _ _ _ h => h, fun _ h => h.elim, ?_, fun k hk => by simp [Value.ownBlock] at hk; omega, h0, h1.gr⟩
  exact ⟨rfl, .inr ⟨w.heap.size, 0, #[], rfl, Nat.zero_le _, Blk.new w 22 _, by simp, by unfold maxLen; omega, by simp, by simp⟩⟩
/-- One more. -/
theorem Lng.next {w0 w wi w' : World} {gl m : Nat} {V : Nat → Value} {n : Nat → Nat} {t : Nat} {lo lo' x : Value} {X : Nat → Value} {F : Nat → Prop} (h : Lng w0 gl m V n t lo X F w) (hs : Sep m V) (ht : t < m)
    (hG : G2 w (V t) x (n t) 70 ((t : Int) + 1) wi) (hO : OwnV w' lo' ((List.range t).map X ++ [x])) (hM : Moved (wi.alloc (.cells #[x] 22)) lo lo') (hg : Grown (wi.alloc (.cells #[x] 22)) w' fun k => lo.ownBlock = some k) :
    Lng w0 gl m V n (t + 1) lo' (updN X t x) (fun k => F k ∨ (V t).ownBlock = some k ∨ x.ownBlock = some k) w' := by
  have hOt := h.own t (Nat.le_refl _) ht
  have lt0 : ∀ k, lo.ownBlock = some k → k < w.heap.size := h.lg.lt
  have tl : ∀ k, Typ w k 5 → lo.ownBlock ≠ some k := fun k hk e => absurd (hk.one (h.lg.typ e)) (by decide)
  -- the two steps, together
  have hg1 : Grown w (wi.alloc (.cells #[x] 22)) fun k => (V t).ownBlock = some k := hG.gr.next (Grown.alloc wi _ fun _ => False) fun _ _ h => h.elim
  have hg2 : Grown w w' fun k => (V t).ownBlock = some k ∨ lo.ownBlock = some k := (hg1.mono fun k _ h => .inl h).next hg fun k _ h => .inr h
  have hX : OwnT w' x (List.replicate (n t + 70) ((t : Int) + 1)) := by
    have h1 := hG.own.box (.cells #[x] 22)
    refine h1.grown hg fun k hk e => ?_
    rcases hG.pos with h2 | ⟨k2, h2, h3⟩
    · exact tl k (hOt.typ (by rw [← h2]; exact hk)) e
    · have := lt0 k e; rw [h2] at hk; injection hk with hk; omega
  have hVt : RowAt w' (V t) (List.replicate (n t) ((t : Int) + 1)) := by
    have h1 := hG.row.below (below_new wi (.cells #[x] 22))
    exact h1.grown hg fun k hk _ e => tl k (hOt.typ hk) e
  have hVty : ∀ k, (V t).ownBlock = some k → Typ w' k 5 := fun k hk => hg.typ ((Grown.alloc wi (.cells #[x] 22) fun _ => False).typ (hG.typ k hk) fun h => h) fun e => tl k (hOt.typ hk) e
  have nF : ∀ k, F k → ¬ ((V t).ownBlock = some k ∨ lo.ownBlock = some k) := fun k hk h1 => by
    rcases h1 with h1 | h1
    · exact h.fo t (Nat.le_refl _) ht k h1 hk
    · exact tl k (h.ft k hk) h1
  refine ⟨?_, fun j hj hjm => ?_, fun j hj => ?_, fun j hj => ?_, fun j hj k hk => ?_, fun j hj k hk => ?_, fun j hj hjm k hk hF => ?_, fun k hF => ?_, ?_, fun k hk => ?_, h.gl0, ?_⟩
  · refine hg2.blk h.tab fun e => ?_
    rcases e with e | e
    · exact hOt.ne h.tab (by decide) e
    · have := h.lk gl e; have := h.gl0; omega
  · refine (h.own j (by omega) hjm).grown hg2 fun k hk e => ?_
    rcases e with e | e
    · exact hs t j ht hjm (by omega) k e hk
    · exact tl k ((h.own j (by omega) hjm).typ hk) e
  · by_cases e : j = t
    · subst e; exact hVt
    · exact (h.ra j (by omega)).grown hg2 fun k hk _ => nF k (h.fa j (by omega) k hk)
  · by_cases e : j = t
    · subst e; rw [updN_self]; exact hX.row
    · rw [updN_ne _ _ e]; exact (h.rb j (by omega)).grown hg2 fun k hk _ => nF k (h.fb j (by omega) k hk)
  · by_cases e : j = t
    · subst e; exact .inr (.inl hk)
    · exact .inl (h.fa j (by omega) k hk)
  · by_cases e : j = t
    · subst e; rw [updN_self] at hk; exact .inr (.inr hk)
    · rw [updN_ne _ _ e] at hk; exact .inl (h.fb j (by omega) k hk)
  · rcases hF with hF | hF | hF
    · exact h.fo j (by omega) hjm k hk hF
    · exact hs t j ht hjm (by omega) k hF hk
    · rcases hG.pos with h2 | ⟨k2, h2, h3⟩
      · rw [h2] at hF; exact hs t j ht hjm (by omega) k hF hk
      · rw [h2] at hF; injection hF with hF
        have := (h.own j (by omega) hjm).lt k hk
        omega
  · rcases hF with hF | hF | hF
    · exact hg2.typ (h.ft k hF) (nF k hF)
    · exact hVty k hF
    · exact hX.typ hF
  · rw [range_upd]; exact hO
  · rcases hM with e | ⟨k2, e, h2⟩
    · rw [e] at hk; exact h.lk k hk
    · rw [e] at hk; injection hk with hk
      have h3 := h.gr.size; have h4 := hg1.size
      omega
  · refine h.gr.next hg2 fun k hk e => ?_
    rcases e with e | e
    · exact ⟨t, ht, e⟩
    · have := h.lk k e; omega
end Go.Proofs.YtpakaladpdoejaaDoor
