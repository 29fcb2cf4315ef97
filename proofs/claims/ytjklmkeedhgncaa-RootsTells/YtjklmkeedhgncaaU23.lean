import Derived.Test.YtjklmkeedhgncaaU22
namespace Go.Proofs.Ytjklmkeedhgncaa
open Go.ChangeShapes Go.WideShapes Go.ChangeAt Go.RowKit Go.Deep
theorem Try.bytesOf40 : Try.prog.bytesOf 40 = 48 := by kernel_rfl
theorem mem_weightsAll {H : Type} {P : Program} {e : TypeId} {d : DataW H} : ∀ {ds : List (DataW H)}, d ∈ ds → ∀ n ∈ d.weights P e, n ∈ DataW.weightsAll P e ds
  | d0 :: ds, h, n, hn => by
    simp only [DataW.weightsAll, List.mem_append]
    rcases List.mem_cons.1 h with rfl | h
    · exact .inl hn
    · exact .inr (mem_weightsAll h n hn)
set_option maxRecDepth 8000 in
/-- A cell. -/
theorem wcell_of_trod {H : Type} {enc : TypeId × Value → H} {W : World} {sp : Nat → Bool} {held : Bool} {n base : Nat} {cs : List Value} {x : DataW H × List MemPlace} (hf : DataW.trod enc Try.prog W base sp held n 40 cs = some x) (hw : ∀ n ∈ x.1.weights Try.prog 40, n ≤ reachBytes) :
    ∃ c : CV, cs = cvL c ∧ RowAt W c.v c.l ∧ (c.s.size ≤ 140737488351232 ∧ c.l.length ≤ 140737488351232) := by
  obtain ⟨y0, y1, y2, k, hx, hl, h0, h1, h2⟩ := trod_struct3 Try.underlying40 hf
  rw [Try.cellsOf40] at hl
  match cs, hl with
  | [a, b, c], _ =>
    simp only [Try.cellsOf3, Try.cellsOf9, Try.cellsOf38, List.drop_zero, List.take_succ_cons, List.take_zero, List.drop_succ_cons] at h0 h1 h2
    obtain ⟨n0, e0, w0⟩ := DataW.trod_int Try.underlying3 h0
    obtain ⟨s, e1, ex, _⟩ := DataW.trod_string Try.underlying9 h1
    obtain ⟨l, r1, r2, r3⟩ := row_of_trod (v := c) h2 (fun n hn => hw n (by
      rw [hx]
      simp only [DataW.weights, Try.underlying40]
      exact DataW.weights_mem_each (j := 2) (t := 38) rfl rfl n hn))
    have hs : s.size ≤ reachBytes := hw s.size (by
      rw [hx]
      simp only [DataW.weights, Try.underlying40]
      refine DataW.weights_mem_each (j := 1) (t := 9) rfl rfl _ ?_
      rw [ex]
      simp [DataW.weights])
    rw [reach_is] at hs
    simp at e0 e1
    exact ⟨⟨n0, s, c, l⟩, by rw [e0, e1]; rfl, r1, hs, r3⟩
set_option maxRecDepth 8000 in
/-- Cells, one behind the other. -/
theorem wcells_of_trod {H : Type} {enc : TypeId × Value → H} {W : World} {sp : Nat → Bool} {held : Bool} {n base : Nat} {v : Value} {x : DataW H × List MemPlace} (hf : DataW.trod enc Try.prog W base sp held n 23 [v] = some x) (hw : ∀ n ∈ x.1.weights Try.prog 23, n ≤ reachBytes) :
    ∃ L : List CV, CsV W.heap.size W v L ∧ L.length ≤ 3600000000000 ∧ Sml L := by
  rcases open_slice Try.underlying23 hf with ⟨hcs, _⟩ | ⟨a, len, cap, m, n, D, Pl, hcs, _, hl, hm, hz, hx, hcell⟩
  · simp at hcs
    subst hcs
    exact ⟨[], .inl ⟨none, 0, rfl, rfl⟩, by simp, fun c hc => by simp at hc⟩
  · simp at hcs
    subst hcs
    have hlz : len ≤ m := by rw [hz]; split <;> omega
    have hb : len ≤ 3600000000000 := by
      have h1 := hw ((((List.range len).map D).length + ((List.range (m - len)).map fun j => D (len + j)).length) * 48) (by
        rw [hx]
        simp only [DataW.weights, Try.underlying23]
        simp [Try.bytesOf40])
      rw [reach_is] at h1
      simp only [List.length_map, List.length_range] at h1
      omega
    have hwD : ∀ i, i < len → ∀ n ∈ (D i).weights Try.prog 40, n ≤ reachBytes := fun i hi n hn => hw n (by
      rw [hx]
      simp only [DataW.weights, Try.underlying23]
      refine List.mem_cons_of_mem _ (List.mem_append_left _ (mem_weightsAll (d := D i) ?_ n hn))
      exact List.mem_map.2 ⟨i, List.mem_range.2 hi, rfl⟩)
    by_cases h0 : len = 0
    · subst h0
      exact ⟨[], .inl ⟨some a, cap, rfl, rfl⟩, by simp, fun c hc => by simp at hc⟩
    · have each : ∀ i, i < len → ∃ c : CV, (∀ j u, (cvL c)[j]? = some u → W.cell? ((a.add (i * 3)).add j) = some u) ∧ RowAt W c.v c.l ∧ (c.s.size ≤ 140737488351232 ∧ c.l.length ≤ 140737488351232) := by
        intro i hi
        obtain ⟨cs', h1, h2⟩ := hcell i (by omega)
        rw [Try.cellsOf40] at h1
        obtain ⟨_, hlen, hce⟩ := World.cells?_some h1
        obtain ⟨c, e, r1, r2⟩ := wcell_of_trod h2 (hwD i hi)
        refine ⟨c, fun j u hu => ?_, r1, r2⟩
        rw [← e] at hu
        have hj := (List.getElem?_eq_some_iff.1 hu).1
        rw [hce j (by omega)]; exact hu
      haveI : Inhabited CV := ⟨⟨0, ByteArray.empty, .nilFunc, []⟩⟩
      obtain ⟨f, hfc⟩ := Go.Deep.choose_lt each
      have hs : a.spot = none := by
        have := (hfc 0 (by omega)).1 0 (.int .i64 (f 0).k) rfl
        rw [Nat.zero_mul, show (a.add 0).add 0 = a from rfl] at this
        exact World.cell?_spot this
      obtain ⟨b, off, sp⟩ := a
      obtain rfl : sp = none := hs
      have hb0 : b < W.heap.size := by
        have := (hfc 0 (by omega)).1 0 (.int .i64 (f 0).k) rfl
        rw [Addr.add_mid, Addr.add_mid] at this
        exact cell_lt this
      refine ⟨(List.range len).map f, .inr ⟨b, off, cap, by simp, by simpa using hl, hb0, fun i c hc => ?_, fun c hc => ?_⟩, by simpa using hb, fun c hc => ?_⟩
      · have hi : i < len := by have := (List.getElem?_eq_some_iff.1 hc).1; simpa using this
        have e : f i = c := by simpa [hi] using hc
        subst e
        intro j u hu
        have h1 := (hfc i hi).1 j u hu
        rw [Addr.add_mid, Addr.add_mid] at h1
        exact h1
      · obtain ⟨i, hi, rfl⟩ := List.mem_map.1 hc
        have h1 := hfc i (List.mem_range.1 hi)
        exact ⟨h1.2.1, fun h => row_lt h1.2.1 h⟩
      · obtain ⟨i, hi, rfl⟩ := List.mem_map.1 hc
        exact (hfc i (List.mem_range.1 hi)).2.2
set_option maxRecDepth 8000 in
theorem wasked_of_trod {H : Type} {enc : TypeId × Value → H} {W : World} {sp : Nat → Bool} {held : Bool} {n base : Nat} {cs : List Value} {x : DataW H × List MemPlace} (hf : DataW.trod enc Try.prog W base sp held n 46 cs = some x) (hw : ∀ n ∈ x.1.weights Try.prog 46, n ≤ reachBytes) :
    ∃ G : AkV, cs = [G.v, .int .i64 G.kind, .string G.key, .int .i64 G.n, G.u] ∧ CsV W.heap.size W G.v G.L ∧ LsV W.heap.size W G.u G.ls ∧ G.L.length ≤ 3600000000000 ∧ Sml G.L := by
  obtain ⟨y0, y1, y2, y3, k, hx, hl, h0, h1, h2, h3⟩ := trod_struct4 Try.underlying46 hf
  rw [Try.cellsOf46] at hl
  match cs, hl with
  | [a0, a1, a2, a3, a4], _ =>
    simp only [Try.cellsOf3, Try.cellsOf23, Try.cellsOf9, Try.cellsOf31, List.drop_zero, List.take_succ_cons, List.take_zero, List.drop_succ_cons] at h0 h1 h2 h3
    obtain ⟨L, p1, p2, p3⟩ := wcells_of_trod h0 (fun n hn => hw n (by
      rw [hx]
      simp only [DataW.weights, Try.underlying46]
      exact DataW.weights_mem_each (j := 0) (t := 23) rfl rfl n hn))
    obtain ⟨kind, e1, w1⟩ := DataW.trod_int Try.underlying3 h1
    obtain ⟨key, e2, _, _⟩ := DataW.trod_string Try.underlying9 h2
    obtain ⟨z0, z1, k', hx3, _, g0, g1⟩ := trod_struct2 Try.underlying31 h3
    simp only [Try.cellsOf3, Try.cellsOf29, List.drop_zero, List.take_succ_cons, List.take_zero, List.drop_succ_cons] at g0 g1
    obtain ⟨m, e4, w4⟩ := DataW.trod_int Try.underlying3 g0
    obtain ⟨ls, q1, q2⟩ := leaves_of_trod g1
    simp at e1 e2 e4
    subst e1 e2 e4
    exact ⟨⟨a0, L, kind, key, m, a4, ls⟩, rfl, p1, q1, p2, p3⟩
end Go.Proofs.Ytjklmkeedhgncaa
