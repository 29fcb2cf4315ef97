import Derived.Test.YthlohkgdmfkpeaaGreatB17
import Derived.Test.YthlohkgdmfkpeaaGreatB04
import Derived.ProofKit
import Derived.OpenShut
import Derived.ChangeOld
import Derived.Below
import Derived.SizedLaws
import Derived.Deep.Slices
namespace Go.Proofs.YthlohkgdmfkpeaaGreat
open Go.ChangeShapes Go.WideShapes Go.ChangeAt Go.RowKit Go.Deep
set_option linter.unusedSimpArgs false
set_option linter.unusedVariables false

theorem Tryz.cellsOf52 : Tryz.prog.cellsOf 52 = 36 := by kernel_rfl
theorem Tryz.bytesOf52 : Tryz.prog.bytesOf 52 = 96 := by kernel_rfl
theorem entry_of_trod {H : Type} {enc : TypeId × Value → H} {W : World} {sp : Nat → Bool} {held : Bool} {n base : Nat} {cs : List Value} {x : DataW H × List MemPlace} (hf : DataW.trod enc Tryz.prog W base sp held n 52 cs = some x) (hw : ∀ n ∈ x.1.weights Tryz.prog 52, n ≤ reachBytes) :
  ∃ q : EP, cs = encE q ∧ Nd.NdAt W q.1.N q.2.1 q.2.2 := by
 obtain ⟨y0, y1, k, hx, hl, h0, h1⟩ := Nd.trod_struct2 Tryz.underlying52 hf
 rw [Tryz.cellsOf52] at hl
 simp only [Nd.Tryz.cellsOf36, Nd.Tryz.cellsOf50, List.drop_zero] at h0 h1
 obtain ⟨h, eh⟩ := Nd.hashH_of_trod h0
 obtain ⟨N, vp, vo, e1, r1, r2, r3, r4, r5, r6, r7⟩ := Nd.node_of_trod h1 (fun n hn => hw n (by
  rw [hx]
  simp only [DataW.weights, Tryz.underlying52]
  exact DataW.weights_mem_each (j := 1) (t := 50) rfl rfl n hn))
 refine ⟨(⟨h, N⟩, vp, vo), ?_, ⟨r1, r3, r4, r2, r5, r3.blt, r6.1, r6.2, r7.1, r7.2⟩⟩
 have e2 : (cs.drop 32).take 4 = cs.drop 32 := List.take_of_length_le (by rw [List.length_drop]; omega)
 rw [← List.take_append_drop 32 cs, eh]
 rw [e2] at e1
 rw [e1]
 show _ = (entA h.f N.au N.ck vp vo).toList
 unfold entA
 rw [Array.toList_append]
 rfl
theorem ents_of_trod {H : Type} {enc : TypeId × Value → H} {W : World} {sp : Nat → Bool} {held : Bool} {fuel base : Nat} {v : Value} {x : DataW H × List MemPlace} (hf : DataW.trod enc Tryz.prog W base sp held fuel 23 [v] = some x) (hw : ∀ n ∈ x.1.weights Tryz.prog 23, n ≤ reachBytes) :
  ∃ L : List EP, ESl W v L ∧ EIn W L ∧ L.length ≤ 4398046511104 := by
 rcases open_slice Tryz.underlying23 hf with ⟨hcs, _⟩ | ⟨a, len, cap, m, n, D, Pl, hcs, _, hl_, hm, hz, hx, hcell⟩
 ·simp at hcs
  subst hcs
  exact ⟨[], .inl ⟨none, 0, rfl, rfl⟩, (fun q hq => by cases hq), by simp⟩
 ·simp at hcs
  subst hcs
  have hlz : len ≤ m := by rw [hz]; split <;> omega
  have hb : len ≤ 4398046511104 := by
   have h1 := hw ((((List.range len).map D).length + ((List.range (m - len)).map fun j => D (len + j)).length) * 96) (by
    rw [hx]
    simp only [DataW.weights, Tryz.underlying23]
    simp [Tryz.bytesOf52])
   rw [Nd.reach_is] at h1
   simp only [List.length_map, List.length_range] at h1
   omega
  have hwD : ∀ i, i < len → ∀ n ∈ (D i).weights Tryz.prog 52, n ≤ reachBytes := fun i hi n hn => hw n (by
   rw [hx]
   simp only [DataW.weights, Tryz.underlying23]
   refine List.mem_cons_of_mem _ (List.mem_append_left _ (Nd.mem_weightsAll (d := D i) ?_ n hn))
   exact List.mem_map.2 ⟨i, List.mem_range.2 hi, rfl⟩)
  have each : ∀ i, i < len → ∃ q : EP, (∀ j v, (encE q)[j]? = some v → W.cell? ((a.add (i * 36)).add j) = some v) ∧ Nd.NdAt W q.1.N q.2.1 q.2.2 := by
   intro i hi
   obtain ⟨cs', h1, h2⟩ := hcell i (by omega)
   rw [Tryz.cellsOf52] at h1
   obtain ⟨_, hlen, hce⟩ := World.cells?_some h1
   obtain ⟨q, hqe, hq2⟩ := entry_of_trod h2 (hwD i hi)
   clear h2
   refine ⟨q, fun j v hv => ?_, hq2⟩
   obtain ⟨hj, e⟩ := List.getElem?_eq_some_iff.1 hv
   rw [encE_len] at hj
   rw [hce j (by omega), hqe, ← hv]
  haveI : Inhabited EP := ⟨q0⟩
  obtain ⟨q, hq⟩ := Go.Deep.choose_lt each
  refine ⟨(List.range len).map q, ?_, fun u hu => ?_, by simpa using hb⟩
  ·by_cases h0 : len = 0
   ·subst h0
    exact .inl ⟨some a, cap, rfl, rfl⟩
   ·have hs : a.spot = none := by
     have hv0 : (encE (q 0))[0]? = some (.int .u8 ((q 0).1.id.f 0)) := by
      rw [encE, Array.getElem?_toList]
      simp [entA, Array.getElem?_append, bytesA_size, bytesA]
     have := (hq 0 (by omega)).1 0 _ hv0
     rw [Nat.zero_mul, show a.add 0 = a from rfl, show a.add 0 = a from rfl] at this
     exact World.cell?_spot this
    obtain ⟨b, off, sp⟩ := a
    obtain rfl : sp = none := hs
    refine .inr ⟨b, off, cap, by simp, by simp; omega, flat_of_elems encE_len fun i hi j v hv => ?_⟩
    have hi' : i < len := by simpa using hi
    have := (hq i hi').1 j v (by simpa using hv)
    simp only [Nd.add_none'] at this
    exact this
  ·obtain ⟨i, hi, rfl⟩ := List.mem_map.1 hu
   exact (hq i (List.mem_range.1 hi)).2
end Go.Proofs.YthlohkgdmfkpeaaGreat
