import Derived.Test.YtogmdfhicbmplaaB20
namespace Go.Proofs.Ytogmdfhicbmplaa
open Go.RowKit
set_option linter.unusedSimpArgs false
set_option linter.unusedVariables false

theorem PM.new {B : Nat} {w1 w2 : World} {d : Nat} {g : DG} {r : Int} (hD : DS B w1 d g) (hb : Below w1.heap.size w1 w2) (hx : Blk w2 w1.heap.size 79 (rdA r (.slice none 0 0) (.slice none 0 0) (.slice none 0 0))) (hB : B ≤ w1.heap.size) : PM B w2 d w1.heap.size g (.slice none 0 0) (.slice none 0 0) (.slice none 0 0) ⟨r, [], [], []⟩ := by
 have hR : ∀ k, RgS w1.heap.size (.slice none 0 0) (.slice none 0 0) (.slice none 0 0) k → k = w1.heap.size := fun k hk => by
  rcases hk with h | h | h | h
  ·exact h
  ·cases h
  ·cases h
  ·cases h
 have hlt : ∀ k, DgS d g k → k < w1.heap.size := fun k hk => hD.at'.lt k hk
 refine ⟨hD.at'.grown (Grown.below (S := fun _ => False) hb) (fun _ e => e.elim) (fun _ _ e => e.elim) (fun k hk e => e.elim id fun e => by have := hR k e; omega) (fun k hk => .inl hk) (fun k hk => ?_), RAt.new hx, fun k hk e => by have := hR k e; have := hlt k hk; omega, fun q hq => (by rcases hq with h | h <;> cases h), fun k hk => hk.elim (hD.lo k) fun e => by have := hR k e; omega⟩
 rcases hk with hk | hk
 ·exact Nat.lt_of_lt_of_le (hlt k hk) hb.size
 ·rw [hR k hk]; exact hx.lt
end Go.Proofs.Ytogmdfhicbmplaa
