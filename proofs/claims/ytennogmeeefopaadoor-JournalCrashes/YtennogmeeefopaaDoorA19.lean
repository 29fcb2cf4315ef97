import Derived.Test.YtennogmeeefopaaDoorA09
import Derived.Test.YtennogmeeefopaaDoorA18
import Derived.ProofKit
import Derived.OpenShut
import Derived.ChangeOld
import Derived.Below
import Derived.SizedLaws
import Derived.Deep.Slices
namespace Go.Proofs.YtennogmeeefopaaDoor
open Go.ChangeShapes Go.WideShapes Go.ChangeAt Go.RowKit Go.Deep
set_option linter.unusedSimpArgs false
set_option linter.unusedVariables false

theorem Tryd.jcells39 : Tryd.prog.cellsOf 39 = 4 := by kernel_rfl
theorem Tryd.jcells29 : Tryd.prog.cellsOf 29 = 1 := by kernel_rfl
theorem Tryd.undSps : Tryd.prog.underlying 28 = some (.slice 39) := by kernel_rfl
theorem Tryd.jbytesSp : Tryd.prog.bytesOf 39 = 64 := by kernel_rfl
theorem jtrod_struct4 {H : Type} {enc : TypeId × Value → H} {P : Program} {w : World} {base : Nat} {spare : Nat → Bool} {held : Bool} {t : TypeId} {f0 f1 f2 f3 : Field} {fuel : Nat} {cs : List Value} {x : DataW H × List MemPlace} (ht : P.underlying t = some (.struct #[f0, f1, f2, f3])) (h : DataW.trod enc P w base spare held fuel t cs = some x) :
  ∃ y0 y1 y2 y3 n, cs.length = P.cellsOf t ∧ DataW.trod enc P w base spare held n f0.type ((cs.drop f0.offset).take (P.cellsOf f0.type)) = some y0 ∧
   DataW.trod enc P w base spare held n f1.type ((cs.drop f1.offset).take (P.cellsOf f1.type)) = some y1 ∧ DataW.trod enc P w base spare held n f2.type ((cs.drop f2.offset).take (P.cellsOf f2.type)) = some y2 ∧ DataW.trod enc P w base spare held n f3.type ((cs.drop f3.offset).take (P.cellsOf f3.type)) = some y3 := by
 obtain ⟨xs, n, _, rfl, hl, hlen, hf⟩ := DataW.trod_struct ht h
 match xs, hlen with
 | [y0, y1, y2, y3], _ => exact ⟨y0, y1, y2, y3, n, hl, by simpa using hf 0 f0 rfl, by simpa using hf 1 f1 rfl, by simpa using hf 2 f2 rfl, by simpa using hf 3 f3 rfl⟩
theorem list4 (cs : List Value) (h : cs.length = 4) : ∃ a b c d, cs = [a, b, c, d] := by
 match cs, h with
 | [a, b, c, d], _ => exact ⟨a, b, c, d, rfl⟩
theorem rowB_of {W : World} {v : Value} {l : List Int} (h : RowAt W v l) : RowB W v l W.heap.size := by
 refine ⟨h, fun hn k hk => ?_⟩
 rcases h with ⟨_, h⟩ | ⟨_, _, _, h⟩ | ⟨b, off, cap, rfl, _, hc⟩
 ·exact absurd h hn
 ·exact absurd h hn
 ·have e : b = k := Option.some.inj hk
  subst e
  exact cell_lt (hc 0 (List.length_pos_iff.2 hn))
theorem step_of_trod {H : Type} {enc : TypeId × Value → H} {W : World} {sp : Nat → Bool} {held : Bool} {n base : Nat} {cs : List Value} {x : DataW H × List MemPlace} (hf : DataW.trod enc Tryd.prog W base sp held n 39 cs = some x) :
  ∃ (s : SPV) (X : SPX), cs = (spA s X).toList ∧ RowB W (.slice X.ba s.bl.length X.bc) s.bl W.heap.size ∧ IntsB W (.slice X.ka s.kl.length X.kc) s.kl W.heap.size ∧ Byts s.bl ∧ s.nn ≤ 9223372036854775807 := by
 obtain ⟨y0, y1, y2, y3, k, hl, h0, h1, h2, h3⟩ := jtrod_struct4 Tryd.underlying39 hf
 rw [Tryd.jcells39] at hl
 obtain ⟨c0, c1, c2, c3, rfl⟩ := list4 cs hl
 simp only [Tryd.jcells37, Tryd.jcells3, Tryd.jcells29] at h0 h1 h2 h3
 obtain ⟨z0, e0, _⟩ := DataW.trod_int Tryd.underlying3 h0
 obtain ⟨z1, e1, _, hw1⟩ := DataW.trod_int Tryd.underlying3 h1
 obtain ⟨l, hr, hb, _⟩ := jrow_of_trod (v := c2) h2
 obtain ⟨kl, hi, hib⟩ := jints_of_trod (v := c3) h3
 obtain ⟨ba, bc, hv⟩ := row_form hr
 obtain ⟨ka, kc, hv2⟩ := hi.form
 simp at e0 e1
 subst hv hv2 e0 e1
 exact ⟨⟨z0, z1, l, kl⟩, ⟨ba, bc, ka, kc⟩, rfl, rowB_of hr, ⟨hi, hib⟩, hb, (jwf_i64 hw1).2⟩
theorem steps_of_trod {H : Type} {enc : TypeId × Value → H} {W : World} {sp : Nat → Bool} {held : Bool} {n base : Nat} {v : Value} {x : DataW H × List MemPlace} (hf : DataW.trod enc Tryd.prog W base sp held n 28 [v] = some x) (hw : ∀ n ∈ x.1.weights Tryd.prog 28, n ≤ reachBytes) :
  ∃ ss : List SPV, StepsAt W v ss W.heap.size ∧ ss.length ≤ 140737488355328 := by
 rcases open_slice Tryd.undSps hf with ⟨hcs, _⟩ | ⟨a, len, cap, m, n, D, Pl, hcs, _, hl_, hm, hz, hx, hcell⟩
 ·simp at hcs
  subst hcs
  exact ⟨[], ⟨fun _ => ⟨none, 0, none, 0⟩, .inl ⟨none, 0, rfl, rfl⟩, fun i x hx => by simp at hx⟩, by simp⟩
 ·simp at hcs
  subst hcs
  have hlz : len ≤ m := by rw [hz]; split <;> omega
  have hlen : len ≤ 140737488355328 := by
   have h1 := hw ((((List.range len).map D).length + ((List.range (m - len)).map fun j => D (len + j)).length) * Tryd.prog.bytesOf 39) (by rw [hx]; simp [DataW.weights, Tryd.undSps])
   rw [Tryd.jbytesSp] at h1
   simp only [List.length_map, List.length_range] at h1
   have := reachBytes_lt
   omega
  have each : ∀ i, i < len → ∃ z : SPV × SPX, (∀ j v, (spA z.1 z.2).toList[j]? = some v → W.cell? ((a.add (i * 4)).add j) = some v) ∧ RowB W (.slice z.2.ba z.1.bl.length z.2.bc) z.1.bl W.heap.size ∧ IntsB W (.slice z.2.ka z.1.kl.length z.2.kc) z.1.kl W.heap.size ∧ Byts z.1.bl ∧ z.1.nn ≤ 9223372036854775807 := by
   intro i hi
   obtain ⟨cs', h1, h2⟩ := hcell i (by omega)
   rw [Tryd.jcells39] at h1
   obtain ⟨_, hlen, hce⟩ := World.cells?_some h1
   obtain ⟨s, X, hy, h3⟩ := step_of_trod h2
   refine ⟨(s, X), fun j v hv => ?_, h3⟩
   obtain ⟨hj, e⟩ := List.getElem?_eq_some_iff.1 hv
   have hj4 : j < 4 := hj
   rw [hce j (by omega), hy, ← hv]
  haveI : Inhabited (SPV × SPX) := ⟨(⟨0, 0, [], []⟩, ⟨none, 0, none, 0⟩)⟩
  obtain ⟨q, hq⟩ := Go.Deep.choose_lt each
  refine ⟨(List.range len).map fun i => (q i).1, ⟨fun i => (q i).2, ?_, fun i s hs => ?_⟩, by simpa using hlen⟩
  ·by_cases h0 : len = 0
   ·subst h0
    exact .inl ⟨some a, cap, rfl, rfl⟩
   ·have hc0 : W.cell? a = some (.int .i64 (q 0).1.kd) := by
     have := (hq 0 (by omega)).1 0 (.int .i64 (q 0).1.kd) rfl
     rw [Nat.zero_mul, show a.add 0 = a from rfl] at this
     rw [show a.add 0 = a from rfl] at this
     exact this
    have hs : a.spot = none := World.cell?_spot hc0
    obtain ⟨b, off, sp⟩ := a
    obtain rfl : sp = none := hs
    refine .inr ⟨b, off, cap, cell_lt hc0, by simp, fun i s hi j v hv => ?_⟩
    have hi' : i < len := by have := (List.getElem?_eq_some_iff.1 hi).1; simpa using this
    simp [hi'] at hi
    subst hi
    have := (hq i hi').1 j v hv
    simp only [jadd_none] at this
    exact this
  ·have hi : i < len := by have := (List.getElem?_eq_some_iff.1 hs).1; simpa using this
   simp [hi] at hs
   subst hs
   exact (hq i hi).2
end Go.Proofs.YtennogmeeefopaaDoor
