import Derived.Test.YtogmdfhicbmplaaB09
import Derived.Test.YtogmdfhicbmplaaB11
import Derived.Test.YtogmdfhicbmplaaB10
namespace Go.Proofs.Ytogmdfhicbmplaa
open Go.RowKit
set_option linter.unusedSimpArgs false
set_option linter.unusedVariables false

/-- The slice v owns these slices, above B. -/
def OwnS (w : World) (B : Nat) (v : Value) (Vs : List Value) : Prop := w.ownsRow B 37 1 v Vs.length Vs
theorem OwnS.typ {w : World} {B : Nat} {v : Value} {Vs : List Value} (h : OwnS w B v Vs) {k : Nat} (hk : v.ownBlock = some k) : Typ w k 37 ∧ B ≤ k := by
 rcases h.2 with ⟨rfl, _⟩ | ⟨g, cap, cur, rfl, h1, h2, _⟩
 ·cases hk
 ·have : g = k := by simpa [Value.ownBlock] using hk
  subst this
  exact ⟨⟨_, _, h2⟩, h1⟩
theorem OwnS.below {w w' : World} {B : Nat} {v : Value} {Vs : List Value} (h : OwnS w B v Vs) (hb : Below w.heap.size w w') : OwnS w' B v Vs := by
 refine ⟨h.1, ?_⟩
 rcases h.2 with h1 | ⟨g, cap, cur, rfl, h1, h2, h3⟩
 ·exact .inl h1
 ·exact .inr ⟨g, cap, cur, rfl, h1, by rw [hb.block g (Array.getElem?_eq_some_iff.1 h2).1]; exact h2, h3⟩
end Go.Proofs.Ytogmdfhicbmplaa
namespace Go.Proofs.Ytogmdfhicbmplaa
open Go.RowKit
set_option linter.unusedSimpArgs false
set_option linter.unusedVariables false

/-! ### Marks. -/
theorem LsAt.congr {w : World} {B : Nat} {v : Value} {gl : Nat} {V : Nat → Value} {L M : Nat → List Hs} (h : LsAt w B v gl V L) (e : ∀ i, i < 6 → L i = M i) : LsAt w B v gl V M :=
 ⟨h.eq, h.cell, h.typ, h.lo, fun i hi => e i hi ▸ h.own i hi, h.new⟩
/-! ### An append that leaves alone what stood there. -/
end Go.Proofs.Ytogmdfhicbmplaa
namespace Go.Proofs.Ytogmdfhicbmplaa
open Go.RowKit
set_option linter.unusedSimpArgs false
set_option linter.unusedVariables false

end Go.Proofs.Ytogmdfhicbmplaa
namespace Go.Proofs.Ytogmdfhicbmplaa
open Go.RowKit
set_option linter.unusedSimpArgs false
set_option linter.unusedVariables false

/-- A step of a script: what it is, and its vertex's parents' slice. -/
structure OP where
 k : Int
 on : Int
 q : VP
 h : Hs
def opA (o : OP) : Array Value := #[.int .i64 o.k, .int .i64 o.on] ++ vtx o.q.1.id.f o.q.1.ck o.q.2 ++ bytesA 32 o.h.f
theorem opA_size (o : OP) : (opA o).size = 68 := by simp [opA, vtx_size, bytesA_size]
theorem vtx_id {w : World} {b off : Nat} {c : Nat → Int} {k : Int} {p : Value} (h : w.rangeAt b off (vtx c k p).toList) : w.rangeAt b off (bytesA 32 c).toList := fun j v hv => by
 have hj := (List.getElem?_eq_some_iff.1 hv).1
 refine h j v ?_
 unfold vtx
 rw [Array.toList_append, List.getElem?_append_left hj]
 exact hv
end Go.Proofs.Ytogmdfhicbmplaa
