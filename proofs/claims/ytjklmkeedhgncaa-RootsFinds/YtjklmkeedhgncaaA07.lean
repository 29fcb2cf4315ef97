import Derived.Test.YtjklmkeedhgncaaA06
import Derived.Deep.RegionHeld3
import Derived.Laws.EntriesVeiled
namespace Go.Proofs.Ytjklmkeedhgncaa
open Go.RowKit
set_option linter.unusedSimpArgs false
set_option linter.unusedVariables false
structure LV where
 num : Int
 c : CV
 pv : Value
 ps : List Hs
def lvA (x : LV) : Array Value := #[.int .i64 x.num, .int .i64 x.c.k, .string x.c.s, x.c.v, x.pv]
structure LfAt (B : Nat) (w : World) (x : LV) : Prop where
 row : RowAt w x.c.v x.c.l
 rlt : x.c.l ≠ [] → ∀ k, x.c.v.ownBlock = some k → k < B
 pa : HPa B w x.pv x.ps
theorem LfAt.below {B : Nat} {w w' : World} {x : LV} (h : LfAt B w x) (hb : Below B w w') : LfAt B w' x := by
 refine ⟨?_, h.rlt, h.pa.below hb⟩
 by_cases h0 : x.c.l = []
 ·have h1 := h.row
  rw [h0] at h1 ⊢
  exact row_nil h1
 ·exact h.row.grown (Grown.ofBelow hb) fun k hk e => by have := h.rlt h0 k hk; omega
theorem LfAt.mono {B B' : Nat} {w : World} {x : LV} (h : LfAt B w x) (hB : B ≤ B') : LfAt B' w x := by
 refine ⟨h.row, fun h0 k hk => Nat.lt_of_lt_of_le (h.rlt h0 k hk) hB, ?_⟩
 rcases h.pa with h | ⟨b, off, cap, h1, h2, h3, h4⟩
 ·exact .inl h
 ·exact .inr ⟨b, off, cap, h1, h2, Nat.lt_of_lt_of_le h3 hB, h4⟩
theorem LfAt.pform {B : Nat} {w : World} {x : LV} (h : LfAt B w x) : ∃ a c, x.pv = .slice a x.ps.length c := by
 rcases h.pa with ⟨a, c, e, e2⟩ | ⟨b, off, cap, e, _⟩
 ·exact ⟨a, c, by rw [e, e2]; rfl⟩
 ·exact ⟨_, cap, e⟩
theorem lvA_one {B : Nat} {w : World} {x : LV} (h : LfAt B w x) : (lvA x).all (·.oneCell') = true := by
 obtain ⟨a, c, e⟩ := row_form h.row
 obtain ⟨a', c', e'⟩ := h.pform
 unfold lvA
 rw [e, e']
 simp [Value.oneCell']
theorem Try.sizeLf (x : LV) : (Try.prog.info? 69).map (·.size) = some (lvA x).size := by kernel_rfl


end Go.Proofs.Ytjklmkeedhgncaa
