import Derived.Test.YteijjfeainamdaaGreatDoorRows
import Derived.Test.YteijjfeainamdaaGreatDoorA18
import Derived.ProofKit
import Derived.OpenShut
import Derived.ChangeOld
import Derived.Below
import Derived.SizedLaws
import Derived.Deep.Slices
namespace Go.Proofs.YteijjfeainamdaaGreatDoor
open Go.ChangeShapes Go.WideShapes Go.ChangeAt Go.RowKit Go.Deep
set_option linter.unusedSimpArgs false
set_option linter.unusedVariables false

theorem Tryz.jcells40 : Tryz.prog.cellsOf 40 = 1 := by kernel_rfl
theorem Tryz.jcells5 : Tryz.prog.cellsOf 5 = 1 := by kernel_rfl
theorem Tryz.jcells49 : Tryz.prog.cellsOf 49 = 3 := by kernel_rfl
theorem Tryz.jcells43 : Tryz.prog.cellsOf 43 = 6 := by kernel_rfl
theorem Tryz.jcells3 : Tryz.prog.cellsOf 3 = 1 := by kernel_rfl
theorem Tryz.jcells41 : Tryz.prog.cellsOf 41 = 1 := by kernel_rfl
theorem Tryz.jcells9 : Tryz.prog.cellsOf 9 = 1 := by kernel_rfl
theorem Tryz.undFs : Tryz.prog.underlying 22 = some (.slice 49) := by kernel_rfl
theorem Tryz.undOs : Tryz.prog.underlying 23 = some (.slice 43) := by kernel_rfl
theorem Tryz.undIs : Tryz.prog.underlying 41 = some (.slice 3) := by kernel_rfl
theorem Tryz.jbytes5 : Tryz.prog.bytesOf 5 = 1 := by kernel_rfl
theorem Tryz.jbytesF : Tryz.prog.bytesOf 49 = 48 := by kernel_rfl
theorem Tryz.jbytesO : Tryz.prog.bytesOf 43 = 88 := by kernel_rfl
theorem reach_is : reachBytes = 140737488351232 := by decide
theorem jadd_none (b o i : Nat) : (⟨b, o, none⟩ : Addr).add i = ⟨b, o + i, none⟩ := by
 simp [Addr.add]
theorem jwf_u8 {n : Int} (h : (Lit.int .u8 n).wf = true) : 0 ≤ n ∧ n < 256 := by
 have h1 : IntKind.u8.min = 0 := by decide
 have h2 : IntKind.u8.max = 255 := by decide
 simp only [Lit.wf, h1, h2, Bool.and_eq_true, decide_eq_true_eq] at h
 omega
theorem jwf_i64 {n : Int} (h : (Lit.int .i64 n).wf = true) : -9223372036854775808 ≤ n ∧ n ≤ 9223372036854775807 := by
 have h1 : IntKind.i64.min = -9223372036854775808 := by decide
 have h2 : IntKind.i64.max = 9223372036854775807 := by decide
 simp only [Lit.wf, h1, h2, Bool.and_eq_true, decide_eq_true_eq] at h
 omega
theorem mem_weightsAll {H : Type} {P : Program} {e : TypeId} {d : DataW H} : ∀ {ds : List (DataW H)}, d ∈ ds → ∀ n ∈ d.weights P e, n ∈ DataW.weightsAll P e ds
 | d0 :: ds, h, n, hn => by
  simp only [DataW.weightsAll, List.mem_append]
  rcases List.mem_cons.1 h with rfl | h
  ·exact .inl hn
  ·exact .inr (mem_weightsAll h n hn)
theorem brow_of_trod {H : Type} {enc : TypeId × Value → H} {W : World} {sp : Nat → Bool} {held : Bool} {n base : Nat} {v : Value} {x : DataW H × List MemPlace} (hf : DataW.trod enc Tryz.prog W base sp held n 40 [v] = some x) (hw : ∀ n ∈ x.1.weights Tryz.prog 40, n ≤ reachBytes) :
  ∃ l : List Int, RowAt W v l ∧ Byts l ∧ l.length ≤ 140737488351232 := by
 rcases open_ints Tryz.underlying40 Tryz.underlying5 Tryz.jcells5 hf with ⟨hcs, _⟩ | ⟨a, len, cap, zs, hcs, _, hl, hm, hz, hx, hcell, hwz⟩
 ·simp at hcs
  subst hcs
  exact ⟨[], .inl ⟨rfl, rfl⟩, fun c hc => by simp at hc, by simp⟩
 ·simp at hcs
  subst hcs
  unfold maxLen at hm
  have hlz : len ≤ zs.length := by rw [hz]; split <;> omega
  have hbz : Byts zs := fun c hc => jwf_u8 (hwz c hc)
  have hb : len ≤ 140737488351232 := by
   have h1 := hw ((zs.take len).length + (zs.drop len).length) (by
    rw [hx]
    simp only [DataW.weights, Tryz.underlying40]
    simp [lits, Tryz.jbytes5])
   rw [List.length_take, reach_is] at h1
   omega
  by_cases h0 : len = 0
  ·subst h0
   exact ⟨[], .inr (.inl ⟨a, cap, rfl, rfl⟩), fun c hc => by simp at hc, by simp⟩
  ·have hs : a.spot = none := by
    have := hcell 0 (by omega)
    rw [show a.add 0 = a from rfl] at this
    exact World.cell?_spot this
   obtain ⟨b, off, sp⟩ := a
   obtain rfl : sp = none := hs
   have hlen : (zs.take len).length = len := by rw [List.length_take]; omega
   refine ⟨zs.take len, .inr (.inr ⟨b, off, cap, by rw [hlen], by omega, fun i hi => ?_⟩), fun c hc => hbz c (List.mem_of_mem_take hc), by omega⟩
   rw [hlen] at hi
   have := hcell i (by omega)
   rw [jadd_none] at this
   rw [this]
   simp [List.getD, hi]
theorem jints_of_trod {H : Type} {enc : TypeId × Value → H} {W : World} {sp : Nat → Bool} {held : Bool} {n base : Nat} {v : Value} {x : DataW H × List MemPlace} (hf : DataW.trod enc Tryz.prog W base sp held n 41 [v] = some x) :
  ∃ l : List Int, IntsAt W v l ∧ (l ≠ [] → ∀ k, v.ownBlock = some k → k < W.heap.size) := by
 rcases open_ints Tryz.undIs Tryz.underlying3 Tryz.jcells3 hf with ⟨hcs, _⟩ | ⟨a, len, cap, zs, hcs, _, hl, hm, hz, hx, hcell, hwz⟩
 ·simp at hcs
  subst hcs
  exact ⟨[], .inl ⟨none, 0, rfl, rfl⟩, fun h => absurd rfl h⟩
 ·simp at hcs
  subst hcs
  have hlz : len ≤ zs.length := by rw [hz]; split <;> omega
  have hlen : (zs.take len).length = len := by rw [List.length_take]; omega
  by_cases h0 : len = 0
  ·subst h0
   exact ⟨[], .inl ⟨_, _, rfl, rfl⟩, fun h => absurd rfl h⟩
  ·have hs : a.spot = none := by
    have := hcell 0 (by omega)
    rw [show a.add 0 = a from rfl] at this
    exact World.cell?_spot this
   obtain ⟨b, off, sp⟩ := a
   obtain rfl : sp = none := hs
   refine ⟨zs.take len, .inr ⟨b, off, cap, by rw [hlen], fun i hi => ?_⟩, fun _ k hk => ?_⟩
   ·rw [hlen] at hi
    have := hcell i (by omega)
    rw [jadd_none] at this
    rw [this]
    simp [List.getD, hi]
   ·have e : b = k := Option.some.inj hk
    subst e
    have := hcell 0 (by omega)
    exact cell_lt this
theorem jtrod_struct3 {H : Type} {enc : TypeId × Value → H} {P : Program} {w : World} {base : Nat} {spare : Nat → Bool} {held : Bool} {t : TypeId} {f0 f1 f2 : Field} {fuel : Nat} {cs : List Value} {x : DataW H × List MemPlace} (ht : P.underlying t = some (.struct #[f0, f1, f2])) (h : DataW.trod enc P w base spare held fuel t cs = some x) :
  ∃ y0 y1 y2 n, x.1 = .agg [y0.1, y1.1, y2.1] ∧ cs.length = P.cellsOf t ∧ DataW.trod enc P w base spare held n f0.type ((cs.drop f0.offset).take (P.cellsOf f0.type)) = some y0 ∧
   DataW.trod enc P w base spare held n f1.type ((cs.drop f1.offset).take (P.cellsOf f1.type)) = some y1 ∧ DataW.trod enc P w base spare held n f2.type ((cs.drop f2.offset).take (P.cellsOf f2.type)) = some y2 := by
 obtain ⟨xs, n, _, rfl, hl, hlen, hf⟩ := DataW.trod_struct ht h
 match xs, hlen with
 | [y0, y1, y2], _ => exact ⟨y0, y1, y2, n, by simp, hl, by simpa using hf 0 f0 rfl, by simpa using hf 1 f1 rfl, by simpa using hf 2 f2 rfl⟩
theorem list3 (cs : List Value) (h : cs.length = 3) : ∃ a b c, cs = [a, b, c] := by
 match cs, h with
 | [a, b, c], _ => exact ⟨a, b, c, rfl⟩
theorem jtrod_struct6 {H : Type} {enc : TypeId × Value → H} {P : Program} {w : World} {base : Nat} {spare : Nat → Bool} {held : Bool} {t : TypeId} {f0 f1 f2 f3 f4 f5 : Field} {fuel : Nat} {cs : List Value} {x : DataW H × List MemPlace} (ht : P.underlying t = some (.struct #[f0, f1, f2, f3, f4, f5])) (h : DataW.trod enc P w base spare held fuel t cs = some x) :
  ∃ y0 y1 y2 y3 y4 y5 n, x.1 = .agg [y0.1, y1.1, y2.1, y3.1, y4.1, y5.1] ∧ cs.length = P.cellsOf t ∧ DataW.trod enc P w base spare held n f0.type ((cs.drop f0.offset).take (P.cellsOf f0.type)) = some y0 ∧
   DataW.trod enc P w base spare held n f1.type ((cs.drop f1.offset).take (P.cellsOf f1.type)) = some y1 ∧ DataW.trod enc P w base spare held n f2.type ((cs.drop f2.offset).take (P.cellsOf f2.type)) = some y2 ∧ DataW.trod enc P w base spare held n f3.type ((cs.drop f3.offset).take (P.cellsOf f3.type)) = some y3 ∧ DataW.trod enc P w base spare held n f4.type ((cs.drop f4.offset).take (P.cellsOf f4.type)) = some y4 ∧ DataW.trod enc P w base spare held n f5.type ((cs.drop f5.offset).take (P.cellsOf f5.type)) = some y5 := by
 obtain ⟨xs, n, _, rfl, hl, hlen, hf⟩ := DataW.trod_struct ht h
 match xs, hlen with
 | [y0, y1, y2, y3, y4, y5], _ => exact ⟨y0, y1, y2, y3, y4, y5, n, by simp, hl, by simpa using hf 0 f0 rfl, by simpa using hf 1 f1 rfl, by simpa using hf 2 f2 rfl, by simpa using hf 3 f3 rfl, by simpa using hf 4 f4 rfl, by simpa using hf 5 f5 rfl⟩
theorem list6 (cs : List Value) (h : cs.length = 6) : ∃ a b c d e f, cs = [a, b, c, d, e, f] := by
 match cs, h with
 | [a, b, c, d, e, f], _ => exact ⟨a, b, c, d, e, f, rfl⟩
def FOk (f : PF) : Prop := Byts f.bs ∧ f.bs.length ≤ 200000000000000 ∧ f.nm.size ≤ 1000000000000000
theorem dfile_of_trod {H : Type} {enc : TypeId × Value → H} {W : World} {sp : Nat → Bool} {held : Bool} {n base : Nat} {cs : List Value} {x : DataW H × List MemPlace} (hf : DataW.trod enc Tryz.prog W base sp held n 49 cs = some x) (hw : ∀ n ∈ x.1.weights Tryz.prog 49, n ≤ reachBytes) :
  ∃ (y : FC) (f : PF), cs = (fA y).toList ∧ y.nm = f.nm ∧ y.sf = f.sf ∧ RowAt W y.b f.bs ∧ FOk f := by
 obtain ⟨y0, y1, y2, k, hx, hl, h0, h1, h2⟩ := jtrod_struct3 Tryz.underlying49 hf
 rw [Tryz.jcells49] at hl
 obtain ⟨c0, c1, c2, rfl⟩ := list3 cs hl
 simp only [Tryz.jcells9, Tryz.jcells40, Tryz.jcells3] at h0 h1 h2
 obtain ⟨s, e0, g0, _⟩ := DataW.trod_string Tryz.underlying9 h0
 obtain ⟨z, e2, _⟩ := DataW.trod_int Tryz.underlying3 h2
 have hs : s.size ≤ reachBytes := hw s.size (by
  rw [hx]
  simp only [DataW.weights, Tryz.underlying49]
  refine DataW.weights_mem_each (j := 0) (t := 9) rfl rfl _ ?_
  rw [g0]
  simp [DataW.weights])
 obtain ⟨l, hr, hb, hk⟩ := brow_of_trod (v := c1) h1 (fun n hn => hw n (by
  rw [hx]
  simp only [DataW.weights, Tryz.underlying49]
  exact DataW.weights_mem_each (j := 1) (t := 40) rfl rfl n hn))
 rw [reach_is] at hs
 simp at e0 e2
 exact ⟨⟨s, c1, z⟩, ⟨s, l, z⟩, by simp [fA, e0, e2], rfl, rfl, hr, hb, by simp only; omega, by simp only; omega⟩
theorem dfiles_of_trod {H : Type} {enc : TypeId × Value → H} {W : World} {sp : Nat → Bool} {held : Bool} {n base : Nat} {v : Value} {x : DataW H × List MemPlace} (hf : DataW.trod enc Tryz.prog W base sp held n 22 [v] = some x) (hw : ∀ n ∈ x.1.weights Tryz.prog 22, n ≤ reachBytes) :
  ∃ ks : List PF, FilesAt W v ks ∧ ks.length ≤ 1000000000000000 ∧ ∀ k ∈ ks, FOk k := by
 rcases open_slice Tryz.undFs hf with ⟨hcs, _⟩ | ⟨a, len, cap, m, n, D, Pl, hcs, _, hl_, hm, hz, hx, hcell⟩
 ·simp at hcs
  subst hcs
  exact ⟨[], ⟨fun _ => zeroF, .inl ⟨none, 0, rfl, rfl⟩, fun i x hx => by simp at hx⟩, by simp, by simp⟩
 ·simp at hcs
  subst hcs
  have hlz : len ≤ m := by rw [hz]; split <;> omega
  have hb : len ≤ 1000000000000000 := by
   have h1 := hw ((((List.range len).map D).length + ((List.range (m - len)).map fun j => D (len + j)).length) * 48) (by
    rw [hx]
    simp only [DataW.weights, Tryz.undFs]
    simp [Tryz.jbytesF])
   rw [reach_is] at h1
   simp only [List.length_map, List.length_range] at h1
   omega
  have hwD : ∀ i, i < len → ∀ n ∈ (D i).weights Tryz.prog 49, n ≤ reachBytes := fun i hi n hn => hw n (by
   rw [hx]
   simp only [DataW.weights, Tryz.undFs]
   refine List.mem_cons_of_mem _ (List.mem_append_left _ (mem_weightsAll (d := D i) ?_ n hn))
   exact List.mem_map.2 ⟨i, List.mem_range.2 hi, rfl⟩)
  have each : ∀ i, i < len → ∃ z : FC × PF, (∀ j v, (fA z.1).toList[j]? = some v → W.cell? ((a.add (i * 3)).add j) = some v) ∧ z.1.nm = z.2.nm ∧ z.1.sf = z.2.sf ∧ RowAt W z.1.b z.2.bs ∧ FOk z.2 := by
   intro i hi
   obtain ⟨cs', h1, h2⟩ := hcell i (by omega)
   rw [Tryz.jcells49] at h1
   obtain ⟨_, hlen, hce⟩ := World.cells?_some h1
   obtain ⟨y, f, hy, h3⟩ := dfile_of_trod h2 (hwD i hi)
   refine ⟨(y, f), fun j v hv => ?_, h3⟩
   obtain ⟨hj, e⟩ := List.getElem?_eq_some_iff.1 hv
   rw [fA_len] at hj
   rw [hce j (by omega), hy, ← hv]
  haveI : Inhabited (FC × PF) := ⟨(zeroF, ⟨⟨#[]⟩, [], 0⟩)⟩
  obtain ⟨q, hq⟩ := Go.Deep.choose_lt each
  refine ⟨(List.range len).map fun i => (q i).2, ⟨fun i => (q i).1, ?_, fun i x hx => ?_⟩, by simpa using hb, fun k hk => ?_⟩
  ·by_cases h0 : len = 0
   ·subst h0
    exact .inl ⟨some a, cap, rfl, rfl⟩
   ·have hs : a.spot = none := by
     have := (hq 0 (by omega)).1 0 _ (fA_0 _ : (fA (q 0).1)[0]? = _)
     rw [Nat.zero_mul, show a.add 0 = a from rfl] at this
     rw [show a.add 0 = a from rfl] at this
     exact World.cell?_spot this
    obtain ⟨b, off, sp⟩ := a
    obtain rfl : sp = none := hs
    refine .inr ⟨b, off, cap, by simp, fun i hi j v hv => ?_⟩
    have hi' : i < len := by simpa using hi
    have := (hq i hi').1 j v hv
    simp only [jadd_none] at this
    exact this
  ·have hi : i < len := by have := (List.getElem?_eq_some_iff.1 hx).1; simpa using this
   simp [hi] at hx
   subst hx
   exact ⟨(hq i hi).2.1, (hq i hi).2.2.1, (hq i hi).2.2.2.1⟩
  ·obtain ⟨i, hi, rfl⟩ := List.mem_map.1 hk
   exact (hq i (List.mem_range.1 hi)).2.2.2.2
def POk (x : PO) : Prop := Byts x.l ∧ x.l.length ≤ 200000000000000 ∧ x.nm.size ≤ 1000000000000000 ∧ x.n ≤ 9223372036854775807
theorem dop_of_trod {H : Type} {enc : TypeId × Value → H} {W : World} {sp : Nat → Bool} {held : Bool} {n base : Nat} {cs : List Value} {x : DataW H × List MemPlace} (hf : DataW.trod enc Tryz.prog W base sp held n 43 cs = some x) (hw : ∀ n ∈ x.1.weights Tryz.prog 43, n ≤ reachBytes) :
  ∃ (y : OX) (f : PO), cs = (opA y).toList ∧ (y.kd = f.kd ∧ y.at_ = f.at_ ∧ y.n = f.n ∧ y.nm = f.nm ∧ RowAt W y.b f.l ∧ IntsAt W y.kp f.kp) ∧ POk f := by
 obtain ⟨y0, y1, y2, y3, y4, y5, k, hx, hl, h0, h1, h2, h3, h4, h5⟩ := jtrod_struct6 Tryz.underlying43 hf
 rw [Tryz.jcells43] at hl
 obtain ⟨c0, c1, c2, c3, c4, c5, rfl⟩ := list6 cs hl
 simp only [Tryz.jcells9, Tryz.jcells40, Tryz.jcells3, Tryz.jcells41] at h0 h1 h2 h3 h4 h5
 obtain ⟨z0, e0, _⟩ := DataW.trod_int Tryz.underlying3 h0
 obtain ⟨z1, e1, _⟩ := DataW.trod_int Tryz.underlying3 h1
 obtain ⟨z2, e2, _, w2⟩ := DataW.trod_int Tryz.underlying3 h2
 obtain ⟨s, e3, g3, _⟩ := DataW.trod_string Tryz.underlying9 h3
 have hs : s.size ≤ reachBytes := hw s.size (by
  rw [hx]
  simp only [DataW.weights, Tryz.underlying43]
  refine DataW.weights_mem_each (j := 3) (t := 9) rfl rfl _ ?_
  rw [g3]
  simp [DataW.weights])
 obtain ⟨l, hr, hb, hk⟩ := brow_of_trod (v := c4) h4 (fun n hn => hw n (by
  rw [hx]
  simp only [DataW.weights, Tryz.underlying43]
  exact DataW.weights_mem_each (j := 4) (t := 40) rfl rfl n hn))
 obtain ⟨kl, hi, _⟩ := jints_of_trod (v := c5) h5
 rw [reach_is] at hs
 simp at e0 e1 e2 e3
 exact ⟨⟨z0, z1, z2, s, c4, c5⟩, ⟨z0, z1, z2, s, l, kl⟩, by simp [opA, e0, e1, e2, e3], ⟨rfl, rfl, rfl, rfl, hr, hi⟩, hb, by simp only; omega, by simp only; omega, (jwf_i64 w2).2⟩
theorem dops_of_trod {H : Type} {enc : TypeId × Value → H} {W : World} {sp : Nat → Bool} {held : Bool} {n base : Nat} {v : Value} {x : DataW H × List MemPlace} (hf : DataW.trod enc Tryz.prog W base sp held n 23 [v] = some x) (hw : ∀ n ∈ x.1.weights Tryz.prog 23, n ≤ reachBytes) :
  ∃ os : List PO, OpsAt W v os ∧ os.length ≤ 1000000000000000 ∧ ∀ k ∈ os, POk k := by
 rcases open_slice Tryz.undOs hf with ⟨hcs, _⟩ | ⟨a, len, cap, m, n, D, Pl, hcs, _, hl_, hm, hz, hx, hcell⟩
 ·simp at hcs
  subst hcs
  exact ⟨[], ⟨fun _ => zeroO, .inl ⟨none, 0, rfl, rfl⟩, fun i x hx => by simp at hx⟩, by simp, by simp⟩
 ·simp at hcs
  subst hcs
  have hlz : len ≤ m := by rw [hz]; split <;> omega
  have hb : len ≤ 1000000000000000 := by
   have h1 := hw ((((List.range len).map D).length + ((List.range (m - len)).map fun j => D (len + j)).length) * 88) (by
    rw [hx]
    simp only [DataW.weights, Tryz.undOs]
    simp [Tryz.jbytesO])
   rw [reach_is] at h1
   simp only [List.length_map, List.length_range] at h1
   omega
  have hwD : ∀ i, i < len → ∀ n ∈ (D i).weights Tryz.prog 43, n ≤ reachBytes := fun i hi n hn => hw n (by
   rw [hx]
   simp only [DataW.weights, Tryz.undOs]
   refine List.mem_cons_of_mem _ (List.mem_append_left _ (mem_weightsAll (d := D i) ?_ n hn))
   exact List.mem_map.2 ⟨i, List.mem_range.2 hi, rfl⟩)
  have each : ∀ i, i < len → ∃ z : OX × PO, (∀ j v, (opA z.1).toList[j]? = some v → W.cell? ((a.add (i * 6)).add j) = some v) ∧ (z.1.kd = z.2.kd ∧ z.1.at_ = z.2.at_ ∧ z.1.n = z.2.n ∧ z.1.nm = z.2.nm ∧ RowAt W z.1.b z.2.l ∧ IntsAt W z.1.kp z.2.kp) ∧ POk z.2 := by
   intro i hi
   obtain ⟨cs', h1, h2⟩ := hcell i (by omega)
   rw [Tryz.jcells43] at h1
   obtain ⟨_, hlen, hce⟩ := World.cells?_some h1
   obtain ⟨y, f, hy, h3⟩ := dop_of_trod h2 (hwD i hi)
   refine ⟨(y, f), fun j v hv => ?_, h3⟩
   obtain ⟨hj, e⟩ := List.getElem?_eq_some_iff.1 hv
   have hj : j < 6 := hj
   rw [hce j (by omega), hy, ← hv]
  haveI : Inhabited (OX × PO) := ⟨(zeroO, ⟨0, 0, 0, ⟨#[]⟩, [], []⟩)⟩
  obtain ⟨q, hq⟩ := Go.Deep.choose_lt each
  refine ⟨(List.range len).map fun i => (q i).2, ⟨fun i => (q i).1, ?_, fun i x hx => ?_⟩, by simpa using hb, fun k hk => ?_⟩
  ·by_cases h0 : len = 0
   ·subst h0
    exact .inl ⟨some a, cap, rfl, rfl⟩
   ·have hs : a.spot = none := by
     have := (hq 0 (by omega)).1 0 (.int .i64 (q 0).1.kd) rfl
     rw [Nat.zero_mul, show a.add 0 = a from rfl] at this
     rw [show a.add 0 = a from rfl] at this
     exact World.cell?_spot this
    obtain ⟨b, off, sp⟩ := a
    obtain rfl : sp = none := hs
    refine .inr ⟨b, off, cap, by simp, fun i hi j v hv => ?_⟩
    have hi' : i < len := by simpa using hi
    have := (hq i hi').1 j v hv
    simp only [jadd_none] at this
    exact this
  ·have hi : i < len := by have := (List.getElem?_eq_some_iff.1 hx).1; simpa using this
   simp [hi] at hx
   subst hx
   exact (hq i hi).2.1
  ·obtain ⟨i, hi, rfl⟩ := List.mem_map.1 hk
   exact (hq i (List.mem_range.1 hi)).2.2
end Go.Proofs.YteijjfeainamdaaGreatDoor
