import Derived.Test.YtpakaladpdoejaaDoorKitB
namespace Go.Proofs.YtpakaladpdoejaaDoor
open Go.RowKit

theorem row_head {w : World} {v g1 : Value} {n k : Nat} {m : Int} {va : Option Addr} {vc : Nat} (hv : v = .slice va n vc) (h0 : ∀ a, va = some a → a.off = 0 ∧ a.spot = none) (hnv : va = none → n = 0 ∧ vc = 0) (hle : n ≤ vc) (h : OwnT w g1 (List.replicate (n + k) m)) (he : g1.ownBlock = v.ownBlock) : RowAt w v (List.replicate n m) := by
  subst hv
  cases va with
  | none => obtain ⟨rfl, rfl⟩ := hnv rfl; exact .inl ⟨rfl, rfl⟩
  | some a =>
    obtain ⟨h1, h2⟩ := h0 a rfl
    obtain ⟨b, o, sp⟩ := a
    simp only at h1 h2
    subst h1 h2
    refine .inr (.inr ⟨b, 0, vc, by simp, by simpa using hle, fun i hi => ?_⟩)
    simp only [List.length_replicate] at hi
    have h5 := h
    rcases h5 with ⟨e, e2⟩ | ⟨g', cap', cur, fz, e, hb, _⟩
    · have := congrArg List.length e2; simp at this; omega
    · rw [e] at he h
      simp [Value.ownBlock] at he
      subst he
      have := (h.cells i (by simp; omega)).1
      rw [Nat.zero_add, this]
      simp [List.getD_eq_getElem?_getD, hi, show i < n + k by omega]

structure G2 (wL : World) (vb g : Value) (n t : Nat) (m : Int) (w : World) : Prop where
  own : OwnT w g (List.replicate (n + t) m)
  row : RowAt w vb (List.replicate n m)
  typ : ∀ k, vb.ownBlock = some k → Typ w k 5
  pos : g.ownBlock = vb.ownBlock ∨ ∃ k, g.ownBlock = some k ∧ wL.heap.size ≤ k
  gr : Grown wL w fun k => vb.ownBlock = some k
theorem G2.next {wL wx w' : World} {vb g v' : Value} {n t : Nat} {m : Int} {va : Option Addr} {vc : Nat} {l0 : List Int} (h : G2 wL vb g n t m wx) (hv : vb = .slice va n vc) (hO : OwnT wL vb l0) (o : Obj) (hp : AppPostT (wx.alloc o) g (List.replicate (n + t) m ++ [m]) v' w') : G2 wL vb v' n (t + 1) m w' := by
  have hO' := hO
  rw [hv] at hO'
  obtain ⟨p1, p2, p3, _⟩ := hO'.plain
  have hown : OwnT w' v' (List.replicate (n + (t + 1)) m) := by
    have e : List.replicate (n + (t + 1)) m = List.replicate (n + t) m ++ [m] := by rw [← Nat.add_assoc, List.replicate_succ']
    rw [e]; exact hp.1
  have hgL : Grown wL (wx.alloc o) fun k => vb.ownBlock = some k := h.gr.next (Grown.alloc wx o fun _ => False) fun _ _ h => h.elim
  have hrow : RowAt (wx.alloc o) vb (List.replicate n m) := h.row.below (below_new wx o)
  have hgr : Grown wL w' fun k => vb.ownBlock = some k := hgL.next hp.grown fun i hi e => by
    rcases h.pos with h1 | ⟨k, h1, h2⟩
    · rw [← h1]; exact e
    · rw [h1] at e; injection e with e; omega
  have htyp : ∀ k, vb.ownBlock = some k → Typ (wx.alloc o) k 5 := fun k hk => (Grown.alloc wx o fun _ => False).typ (h.typ k hk) fun h => h
  rcases hp.2 with ⟨e1, g1⟩ | ⟨e1, g1⟩
  · by_cases hs : g.ownBlock = vb.ownBlock
    · exact ⟨hown, row_head hv p1 p2 p3 hown (e1.trans hs), fun k hk => hown.typ ((e1.trans hs).trans hk), .inl (e1.trans hs), hgr⟩
    · refine ⟨hown, hrow.grown g1 fun b hb _ e => hs (e.trans hb.symm), fun k hk => g1.typ (htyp k hk) fun e => hs (e.trans hk.symm), ?_, hgr⟩
      rcases h.pos with h1 | h1
      · exact absurd h1 hs
      · rw [e1]; exact .inr h1
  · exact ⟨hown, hrow.below g1, fun k hk => (Grown.below (S := fun _ => False) g1).typ (htyp k hk) fun h => h, .inr ⟨_, e1, hgL.size⟩, hgr⟩

theorem fill_next (l : List Int) (t : Nat) (m : Int) (h : t < l.length) : (List.replicate t m ++ l.drop t).set t m = List.replicate (t + 1) m ++ l.drop (t + 1) := by
  apply List.ext_getElem?
  intro i
  rw [List.getElem?_set]
  simp only [List.getElem?_append, List.length_append, List.length_replicate, List.length_drop, List.getElem?_replicate, List.getElem?_drop]
  by_cases h1 : t = i
  · subst h1
    rw [if_pos rfl, if_pos (by omega), if_pos (by omega), if_pos (by omega)]
  · rw [if_neg h1]
    by_cases h2 : i < t
    · rw [if_pos h2, if_pos h2, if_pos (by omega), if_pos (by omega)]
    · rw [if_neg h2, if_neg (by omega), show t + (i - t) = t + 1 + (i - (t + 1)) by omega]

end Go.Proofs.YtpakaladpdoejaaDoor
