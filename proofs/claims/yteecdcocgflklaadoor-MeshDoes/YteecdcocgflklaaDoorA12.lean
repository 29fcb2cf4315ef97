import Derived.Test.YteecdcocgflklaaDoorA07
import Derived.Test.YteecdcocgflklaaDoorRows
import Derived.Test.YteecdcocgflklaaDoorA11
import Derived.ProofKit
import Derived.OpenShut
import Derived.ChangeOld
import Derived.Below
import Derived.SizedLaws
import Derived.Deep.Slices
namespace Go.Proofs.YteecdcocgflklaaDoor
open Go.RowKit
set_option linter.unusedSimpArgs false
set_option linter.unusedVariables false

end Go.Proofs.YteecdcocgflklaaDoor
namespace Go.Proofs.YteecdcocgflklaaDoor
open Go.RowKit
set_option linter.unusedSimpArgs false
set_option linter.unusedVariables false
open Go.ChangeShapes Go.WideShapes Go.ChangeAt Go.RowKit Go.Deep
theorem Tryd.jcells39 : Tryd.prog.cellsOf 39 = 1 := by kernel_rfl
theorem Tryd.jcells5 : Tryd.prog.cellsOf 5 = 1 := by kernel_rfl
theorem Tryd.jcells3 : Tryd.prog.cellsOf 3 = 1 := by kernel_rfl
theorem Tryd.jbytes5 : Tryd.prog.bytesOf 5 = 1 := by kernel_rfl
theorem reach_is : reachBytes = 140737488351232 := by decide
theorem jadd_none (b o i : Nat) : (⟨b, o, none⟩ : Addr).add i = ⟨b, o + i, none⟩ := by
  simp [Addr.add]
theorem jwf_u8 {n : Int} (h : (Lit.int .u8 n).wf = true) : 0 ≤ n ∧ n < 256 := by
  have h1 : IntKind.u8.min = 0 := by decide
  have h2 : IntKind.u8.max = 255 := by decide
  simp only [Lit.wf, h1, h2, Bool.and_eq_true, decide_eq_true_eq] at h
  omega
theorem mem_weightsAll {H : Type} {P : Program} {e : TypeId} {d : DataW H} : ∀ {ds : List (DataW H)}, d ∈ ds → ∀ n ∈ d.weights P e, n ∈ DataW.weightsAll P e ds
  | d0 :: ds, h, n, hn => by
    simp only [DataW.weightsAll, List.mem_append]
    rcases List.mem_cons.1 h with rfl | h
    · exact .inl hn
    · exact .inr (mem_weightsAll h n hn)
theorem brow_of_trod {H : Type} {enc : TypeId × Value → H} {W : World} {sp : Nat → Bool} {held : Bool} {n base : Nat} {v : Value} {x : DataW H × List MemPlace} (hf : DataW.trod enc Tryd.prog W base sp held n 39 [v] = some x) (hw : ∀ n ∈ x.1.weights Tryd.prog 39, n ≤ reachBytes) :
    ∃ l : List Int, RowAt W v l ∧ Byts l ∧ l.length ≤ 140737488351232 := by
  rcases open_ints Tryd.underlying39 Tryd.underlying5 Tryd.jcells5 hf with ⟨hcs, _⟩ | ⟨a, len, cap, zs, hcs, _, hl, hm, hz, hx, hcell, hwz⟩
  · simp at hcs
    subst hcs
    exact ⟨[], .inl ⟨rfl, rfl⟩, fun c hc => by simp at hc, by simp⟩
  · simp at hcs
    subst hcs
    unfold maxLen at hm
    have hlz : len ≤ zs.length := by rw [hz]; split <;> omega
    have hbz : Byts zs := fun c hc => jwf_u8 (hwz c hc)
    have hb : len ≤ 140737488351232 := by
      have h1 := hw ((zs.take len).length + (zs.drop len).length) (by
        rw [hx]
        simp only [DataW.weights, Tryd.underlying39]
        simp [lits, Tryd.jbytes5])
      rw [List.length_take, reach_is] at h1
      omega
    by_cases h0 : len = 0
    · subst h0
      exact ⟨[], .inr (.inl ⟨a, cap, rfl, rfl⟩), fun c hc => by simp at hc, by simp⟩
    · have hs : a.spot = none := by
        have := hcell 0 (by omega)
        rw [show a.add 0 = a from rfl] at this
        exact World.cell?_spot this
      obtain ⟨b, off, sp⟩ := a
      obtain rfl : sp = none := hs
      have hlen : (zs.take len).length = len := by rw [List.length_take]; omega
      refine ⟨zs.take len, .inr (.inr ⟨b, off, cap, by rw [hlen], by omega, fun i hi => ?_⟩), fun c hc => hbz c (List.mem_of_mem_take hc), by omega⟩
      rw [hlen] at hi
      have := hcell i (by omega)
      rw [jadd_none] at this
      rw [this]
      simp [List.getD, hi]
theorem row_lt {w : World} {v : Value} {l : List Int} (h : RowAt w v l) (h0 : l ≠ []) : ∀ k, v.ownBlock = some k → k < w.heap.size := by
  intro k hk
  rcases h with ⟨_, rfl⟩ | ⟨_, _, _, rfl⟩ | ⟨q, off, cap, rfl, h1, h2⟩
  · exact absurd rfl h0
  · exact absurd rfl h0
  · have := cell_lt (h2 0 (List.length_pos_iff.2 h0))
    simp [Value.ownBlock] at hk
    omega

theorem Tryd.jcells41 : Tryd.prog.cellsOf 41 = 8 := by kernel_rfl
theorem Tryd.undSs : Tryd.prog.underlying 25 = some (.slice 41) := by kernel_rfl
theorem Tryd.jbytesSp : Tryd.prog.bytesOf 41 = 80 := by kernel_rfl
theorem jtrod_struct8 {H : Type} {enc : TypeId × Value → H} {P : Program} {w : World} {base : Nat} {spare : Nat → Bool} {held : Bool} {t : TypeId} {f0 f1 f2 f3 f4 f5 f6 f7 : Field} {fuel : Nat} {cs : List Value} {x : DataW H × List MemPlace} (ht : P.underlying t = some (.struct #[f0, f1, f2, f3, f4, f5, f6, f7])) (h : DataW.trod enc P w base spare held fuel t cs = some x) :
    ∃ y0 y1 y2 y3 y4 y5 y6 y7 n, x.1 = .agg [y0.1, y1.1, y2.1, y3.1, y4.1, y5.1, y6.1, y7.1] ∧ cs.length = P.cellsOf t ∧ DataW.trod enc P w base spare held n f0.type ((cs.drop f0.offset).take (P.cellsOf f0.type)) = some y0 ∧ DataW.trod enc P w base spare held n f1.type ((cs.drop f1.offset).take (P.cellsOf f1.type)) = some y1 ∧ DataW.trod enc P w base spare held n f2.type ((cs.drop f2.offset).take (P.cellsOf f2.type)) = some y2 ∧ DataW.trod enc P w base spare held n f3.type ((cs.drop f3.offset).take (P.cellsOf f3.type)) = some y3 ∧ DataW.trod enc P w base spare held n f4.type ((cs.drop f4.offset).take (P.cellsOf f4.type)) = some y4 ∧ DataW.trod enc P w base spare held n f5.type ((cs.drop f5.offset).take (P.cellsOf f5.type)) = some y5 ∧ DataW.trod enc P w base spare held n f6.type ((cs.drop f6.offset).take (P.cellsOf f6.type)) = some y6 ∧ DataW.trod enc P w base spare held n f7.type ((cs.drop f7.offset).take (P.cellsOf f7.type)) = some y7 := by
  obtain ⟨xs, n, _, rfl, hl, hlen, hf⟩ := DataW.trod_struct ht h
  match xs, hlen with
  | [y0, y1, y2, y3, y4, y5, y6, y7], _ => exact ⟨y0, y1, y2, y3, y4, y5, y6, y7, n, by simp, hl, by simpa using hf 0 f0 rfl, by simpa using hf 1 f1 rfl, by simpa using hf 2 f2 rfl, by simpa using hf 3 f3 rfl, by simpa using hf 4 f4 rfl, by simpa using hf 5 f5 rfl, by simpa using hf 6 f6 rfl, by simpa using hf 7 f7 rfl⟩
theorem list8 (cs : List Value) (h : cs.length = 8) : ∃ a b c d e f g i, cs = [a, b, c, d, e, f, g, i] := by
  match cs, h with
  | [a, b, c, d, e, f, g, i], _ => exact ⟨a, b, c, d, e, f, g, i, rfl⟩
def SOk (W : World) (s : Stp) : Prop := (0 ≤ s.by_ ∧ s.by_ < 256) ∧ Byts s.b ∧ s.b.length ≤ 140737488355328 ∧ RowAt W s.v s.b
theorem stp_of_trod {H : Type} {enc : TypeId × Value → H} {W : World} {sp : Nat → Bool} {held : Bool} {n base : Nat} {cs : List Value} {x : DataW H × List MemPlace} (hf : DataW.trod enc Tryd.prog W base sp held n 41 cs = some x) (hw : ∀ n ∈ x.1.weights Tryd.prog 41, n ≤ reachBytes) :
    ∃ s : Stp, cs = s.cs ∧ SOk W s := by
  obtain ⟨y0, y1, y2, y3, y4, y5, y6, y7, k, hx, hl, h0, h1, h2, h3, h4, h5, h6, h7⟩ := jtrod_struct8 Tryd.underlying41 hf
  rw [Tryd.jcells41] at hl
  obtain ⟨c0, c1, c2, c3, c4, c5, c6, c7, rfl⟩ := list8 cs hl
  simp only [Tryd.jcells3, Tryd.jcells5, Tryd.jcells39] at h0 h1 h2 h3 h4 h5 h6 h7
  obtain ⟨z0, e0, _⟩ := DataW.trod_int Tryd.underlying3 h0
  obtain ⟨z1, e1, _⟩ := DataW.trod_int Tryd.underlying3 h1
  obtain ⟨z2, e2, _⟩ := DataW.trod_int Tryd.underlying3 h2
  obtain ⟨z3, e3, _⟩ := DataW.trod_int Tryd.underlying3 h3
  obtain ⟨z4, e4, _⟩ := DataW.trod_int Tryd.underlying3 h4
  obtain ⟨z5, e5, _⟩ := DataW.trod_int Tryd.underlying3 h5
  obtain ⟨z6, e6, _, w6⟩ := DataW.trod_int Tryd.underlying5 h6
  obtain ⟨l, hr, hb, hk⟩ := brow_of_trod (v := c7) h7 (fun n hn => hw n (by
    rw [hx]
    simp only [DataW.weights, Tryd.underlying41]
    exact DataW.weights_mem_each (j := 7) (t := 39) rfl rfl n hn))
  obtain ⟨a, c, hv⟩ := row_form hr
  subst hv
  simp at e0 e1 e2 e3 e4 e5 e6
  exact ⟨⟨z0, z1, z2, z3, z4, z5, z6, a, c, l⟩, by simp [Stp.cs, Stp.v, e0, e1, e2, e3, e4, e5, e6], jwf_u8 w6, hb, by simp only; omega, hr⟩
theorem stps_of_trod {H : Type} {enc : TypeId × Value → H} {W : World} {sp : Nat → Bool} {held : Bool} {n base : Nat} {v : Value} {x : DataW H × List MemPlace} (hf : DataW.trod enc Tryd.prog W base sp held n 25 [v] = some x) (hw : ∀ n ∈ x.1.weights Tryd.prog 25, n ≤ reachBytes) :
    ∃ (va : Option Addr) (gs go gc : Nat) (S : List Stp), v = .slice va S.length gc ∧ (S ≠ [] → va = some ⟨gs, go, none⟩) ∧ StpAt W (fun k => W.heap.size ≤ k) gs go S ∧ S.length ≤ 140737488355328 := by
  have nil : ∀ gs go, StpAt W (fun k => W.heap.size ≤ k) gs go [] := fun gs go => ⟨fun e => absurd rfl e, fun i s hi => by simp at hi, fun s hs => by simp at hs⟩
  rcases open_slice Tryd.undSs hf with ⟨hcs, _⟩ | ⟨a, len, cap, m, n, D, Pl, hcs, _, hl_, hm, hz, hx, hcell⟩
  · simp at hcs
    subst hcs
    exact ⟨none, 0, 0, 0, [], rfl, fun e => absurd rfl e, nil 0 0, by simp⟩
  · simp at hcs
    subst hcs
    have hlz : len ≤ m := by rw [hz]; split <;> omega
    have hb : len ≤ 140737488355328 := by
      have h1 := hw ((((List.range len).map D).length + ((List.range (m - len)).map fun j => D (len + j)).length) * 80) (by
        rw [hx]
        simp only [DataW.weights, Tryd.undSs]
        simp [Tryd.jbytesSp])
      rw [reach_is] at h1
      simp only [List.length_map, List.length_range] at h1
      omega
    have hwD : ∀ i, i < len → ∀ n ∈ (D i).weights Tryd.prog 41, n ≤ reachBytes := fun i hi n hn => hw n (by
      rw [hx]
      simp only [DataW.weights, Tryd.undSs]
      refine List.mem_cons_of_mem _ (List.mem_append_left _ (mem_weightsAll (d := D i) ?_ n hn))
      exact List.mem_map.2 ⟨i, List.mem_range.2 hi, rfl⟩)
    have each : ∀ i, i < len → ∃ s : Stp, (∀ j v, s.cs[j]? = some v → W.cell? ((a.add (i * 8)).add j) = some v) ∧ SOk W s := by
      intro i hi
      obtain ⟨cs', h1, h2⟩ := hcell i (by omega)
      rw [Tryd.jcells41] at h1
      obtain ⟨_, hlen, hce⟩ := World.cells?_some h1
      obtain ⟨y, hy, h3⟩ := stp_of_trod h2 (hwD i hi)
      refine ⟨y, fun j v hv => ?_, h3⟩
      obtain ⟨hj, e⟩ := List.getElem?_eq_some_iff.1 hv
      have hj : j < 8 := hj
      rw [hce j (by omega), hy, ← hv]
    by_cases h0 : len = 0
    · subst h0
      exact ⟨some a, 0, 0, cap, [], rfl, fun e => absurd rfl e, nil 0 0, by simp⟩
    haveI : Inhabited Stp := ⟨⟨0, 0, 0, 0, 0, 0, 0, none, 0, []⟩⟩
    obtain ⟨q, hq⟩ := Go.Deep.choose_lt each
    have c0 := (hq 0 (by omega)).1 0 (.int .i64 (q 0).kd) rfl
    rw [Nat.zero_mul, show a.add 0 = a from rfl, show a.add 0 = a from rfl] at c0
    have hs : a.spot = none := World.cell?_spot c0
    obtain ⟨b, off, sp⟩ := a
    obtain rfl : sp = none := hs
    have hm : ∀ s ∈ (List.range len).map q, SOk W s := fun s hs => by
      obtain ⟨i, hi, rfl⟩ := List.mem_map.1 hs
      exact (hq i (List.mem_range.1 hi)).2
    refine ⟨_, b, off, cap, (List.range len).map q, by simp, fun _ => rfl, ⟨fun _ => Nat.not_le.2 (cell_lt c0), fun i s hi => ?_, fun s hs => ?_⟩, by simpa using hb⟩
    · have hi' : i < len := by have := (List.getElem?_eq_some_iff.1 hi).1; simpa using this
      have e : q i = s := by simpa [hi'] using hi
      rw [← e]
      refine ⟨fun j v hv => ?_, (hq i hi').2.2.2.2⟩
      have := (hq i hi').1 j v hv
      simp only [jadd_none] at this
      exact this
    · obtain ⟨h1, h2, h3, h4⟩ := hm s hs
      exact ⟨h1, h2, h3, fun e k hk => Nat.not_le.2 (row_lt h4 e k hk)⟩

end Go.Proofs.YteecdcocgflklaaDoor
