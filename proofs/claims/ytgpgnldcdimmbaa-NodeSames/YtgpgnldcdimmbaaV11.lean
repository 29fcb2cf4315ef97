import Derived.Test.YtgpgnldcdimmbaaV08
import Derived.Test.YtgpgnldcdimmbaaV10
namespace Go.Proofs.Ytgpgnldcdimmbaa
open Go.ChangeShapes Go.WideShapes Go.ChangeAt Go.RowKit Go.Deep

theorem Try.cellsOf27 : Try.prog.cellsOf 27 = 4 := by kernel_rfl
theorem Try.cellsOf24 : Try.prog.cellsOf 24 = 1 := by kernel_rfl
theorem Try.cellsOf25 : Try.prog.cellsOf 25 = 1 := by kernel_rfl
theorem Try.bytesOf40 : Try.prog.bytesOf 40 = 32 := by kernel_rfl
theorem Try.types27 : Try.prog.cellTypes Try.prog.depth 27 = some [3, 3, 24, 25] := by kernel_rfl
theorem hashH_of_trod {H : Type} {enc : TypeId × Value → H} {W : World} {sp : Nat → Bool} {held : Bool} {n base : Nat} {l : List Value} {x : DataW H × List MemPlace} (hf : DataW.trod enc Try.prog W base sp held n 40 l = some x) : ∃ h : Hs, l = Sh.encH h := by
  obtain ⟨c, e, h1, h2⟩ := hash_of_trod hf
  exact ⟨hs c, by rw [e, encH_B, hB_hs c h1 h2, hl_hof c h1]⟩
theorem hs_of_trod {H : Type} {enc : TypeId × Value → H} {W : World} {sp : Nat → Bool} {held : Bool} {fuel base : Nat} {v : Value} {x : DataW H × List MemPlace} (hf : DataW.trod enc Try.prog W base sp held fuel 24 [v] = some x) (hw : ∀ n ∈ x.1.weights Try.prog 24, n ≤ reachBytes) :
    ∃ l : List Hs, Sh.HRow W v l ∧ l.length ≤ 4398046511104 := by
  rcases open_slice Try.underlying24 hf with ⟨hcs, _⟩ | ⟨a, len, cap, m, n, D, Pl, hcs, _, hl_, hm, hz, hx, hcell⟩
  · simp at hcs
    subst hcs
    exact ⟨[], .inl ⟨none, 0, rfl, rfl, fun _ => rfl⟩, by simp⟩
  · simp at hcs
    subst hcs
    have hlz : len ≤ m := by rw [hz]; split <;> omega
    have hb : len ≤ 4398046511104 := by
      have h1 := hw ((((List.range len).map D).length + ((List.range (m - len)).map fun j => D (len + j)).length) * 32) (by
        rw [hx]
        simp only [DataW.weights, Try.underlying24]
        simp [Try.bytesOf40])
      rw [reach_is] at h1
      simp only [List.length_map, List.length_range] at h1
      omega
    have each : ∀ i, i < len → ∃ q : Hs, ∀ j v, (Sh.encH q)[j]? = some v → W.cell? ((a.add (i * 32)).add j) = some v := by
      intro i hi
      obtain ⟨cs', h1, h2⟩ := hcell i (by omega)
      rw [Try.cellsOf40] at h1
      obtain ⟨_, hlen, hce⟩ := World.cells?_some h1
      obtain ⟨q, hqe⟩ := hashH_of_trod h2
      clear h2
      refine ⟨q, fun j v hv => ?_⟩
      obtain ⟨hj, e⟩ := List.getElem?_eq_some_iff.1 hv
      rw [Sh.encH_len] at hj
      rw [hce j (by omega), hqe, ← hv]
    obtain ⟨q, hq⟩ := Go.Deep.choose_lt each
    refine ⟨(List.range len).map q, ?_, by simpa using hb⟩
    by_cases h0 : len = 0
    · subst h0
      exact .inl ⟨some a, cap, rfl, rfl, fun h => by cases h⟩
    · have hs : a.spot = none := by
        have hv0 : (Sh.encH (q 0))[0]? = some (.int .u8 ((q 0).f 0)) := Sh.encH_get _ 0 (by omega)
        have := hq 0 (by omega) 0 _ hv0
        rw [Nat.zero_mul, show a.add 0 = a from rfl] at this
        rw [show a.add 0 = a from rfl] at this
        exact World.cell?_spot this
      obtain ⟨b, off, sp⟩ := a
      obtain rfl : sp = none := hs
      refine .inr ⟨b, off, cap, by simp, by simp; omega, fun j v hv => ?_⟩
      have hj : j < len * 32 := by
        have := (List.getElem?_eq_some_iff.1 hv).1
        rw [Sh.flatH_len] at this
        simpa using this
      have hi : j / 32 < ((List.range len).map q).length := by simp; omega
      have hg := Sh.flatH_get ((List.range len).map q) (j / 32) hi (j % 32) (Nat.mod_lt _ (by omega))
      rw [show j / 32 * 32 + j % 32 = j by omega, hv] at hg
      have := hq (j / 32) (by simpa using hi) (j % 32) v (by rw [hg]; simp)
      simp only [add_none'] at this
      rwa [show off + j / 32 * 32 + j % 32 = off + j by omega] at this
theorem trod_struct4 {H : Type} {enc : TypeId × Value → H} {P : Program} {w : World} {base : Nat} {spare : Nat → Bool} {held : Bool} {t : TypeId} {f0 f1 f2 f3 : Field} {fuel : Nat} {cs : List Value} {x : DataW H × List MemPlace} (ht : P.underlying t = some (.struct #[f0, f1, f2, f3])) (h : DataW.trod enc P w base spare held fuel t cs = some x) :
    ∃ y0 y1 y2 y3 n, x.1 = .agg [y0.1, y1.1, y2.1, y3.1] ∧ cs.length = P.cellsOf t ∧ DataW.trod enc P w base spare held n f0.type ((cs.drop f0.offset).take (P.cellsOf f0.type)) = some y0 ∧
      DataW.trod enc P w base spare held n f1.type ((cs.drop f1.offset).take (P.cellsOf f1.type)) = some y1 ∧ DataW.trod enc P w base spare held n f2.type ((cs.drop f2.offset).take (P.cellsOf f2.type)) = some y2 ∧ DataW.trod enc P w base spare held n f3.type ((cs.drop f3.offset).take (P.cellsOf f3.type)) = some y3 := by
  obtain ⟨xs, n, _, rfl, hl, hlen, hf⟩ := DataW.trod_struct ht h
  match xs, hlen with
  | [y0, y1, y2, y3], _ => exact ⟨y0, y1, y2, y3, n, by simp, hl, by simpa using hf 0 f0 rfl, by simpa using hf 1 f1 rfl, by simpa using hf 2 f2 rfl, by simpa using hf 3 f3 rfl⟩
theorem list4 (cs : List Value) (h : cs.length = 4) : ∃ a b c d, cs = [a, b, c, d] := by
  match cs, h with
  | [a, b, c, d], _ => exact ⟨a, b, c, d, rfl⟩
theorem node_of_trod {H : Type} {enc : TypeId × Value → H} {W : World} {sp : Nat → Bool} {held : Bool} {n base : Nat} {cs : List Value} {x : DataW H × List MemPlace} (hf : DataW.trod enc Try.prog W base sp held n 27 cs = some x) (hw : ∀ n ∈ x.1.weights Try.prog 27, n ≤ reachBytes) :
    ∃ (N : NodeV) (vp vo : Value), cs = [.int .i64 N.au, .int .i64 N.ck, vp, vo] ∧ Sh.HRow W vp N.ps ∧ N.ps.length ≤ 4398046511104 ∧ OpsAt W vo N.ops ∧ (∀ q ∈ N.ops, OpOk q) ∧ N.ops.length ≤ 4398046511104 ∧ (-9223372036854775808 ≤ N.au ∧ N.au ≤ 9223372036854775807) ∧ (-9223372036854775808 ≤ N.ck ∧ N.ck ≤ 9223372036854775807) := by
  obtain ⟨y0, y1, y2, y3, k, hx, hl, h0, h1, h2, h3⟩ := trod_struct4 Try.underlying27 hf
  rw [Try.cellsOf27] at hl
  obtain ⟨a, b, c, d, rfl⟩ := list4 cs hl
  simp only [Try.cellsOf3, Try.cellsOf24, Try.cellsOf25, List.drop_zero, List.take_succ_cons, List.take_zero, List.drop_succ_cons] at h0 h1 h2 h3
  obtain ⟨n0, e0, w0⟩ := DataW.trod_int Try.underlying3 h0
  obtain ⟨n1, e1, w1⟩ := DataW.trod_int Try.underlying3 h1
  obtain ⟨l, r1, r2⟩ := hs_of_trod h2 (fun n hn => hw n (by
    rw [hx]
    simp only [DataW.weights, Try.underlying27]
    exact DataW.weights_mem_each (j := 2) (t := 24) rfl rfl n hn))
  obtain ⟨m, q1, q2, q3⟩ := ops_of_trod h3 (fun n hn => hw n (by
    rw [hx]
    simp only [DataW.weights, Try.underlying27]
    exact DataW.weights_mem_each (j := 3) (t := 25) rfl rfl n hn))
  simp at e0 e1
  exact ⟨⟨n0, n1, l, m⟩, c, d, by rw [e0, e1], r1, r2, q1, q2, q3, wf_i64 w0.2, wf_i64 w1.2⟩
set_option maxRecDepth 8000 in
theorem cell_lt_of {W : World} {r : Reach} {base : Nat} {t e : TypeId} (hu : Try.prog.underlying t = some (.slice e)) {v : Value} (h : Cell.okWide Try.prog W r base t v) : ∀ k, v.ownBlock = some k → k < W.heap.size := by
  intro k hk
  cases v with
  | slice a n c =>
    cases a with
    | none => simp [Value.ownBlock] at hk
    | some ad =>
      simp [Value.ownBlock] at hk
      subst hk
      unfold Cell.okWide at h
      simp only [hu] at h
      unfold Cell.ok at h
      simp only [hu] at h
      obtain ⟨_, _, _, _, row, cells, hs, _⟩ := h
      apply Nat.lt_of_not_le
      intro hle
      simp [World.shape?, Array.getElem?_eq_none hle] at hs
  | _ =>
    unfold Cell.okWide at h
    simp only [hu] at h
    unfold Cell.ok at h
    simp only [hu] at h
set_option maxRecDepth 8000 in
theorem wide_node_lt {W : World} {r : Reach} {base : Nat} {a c : Int} {vp vo : Value} (h : Value.okWide Try.prog W r base 27 (.agg (ndA a c vp vo))) : ∀ k, vo.ownBlock = some k → k < W.heap.size := by
  unfold Value.okWide at h
  simp only [Try.underlying27] at h
  obtain ⟨cs, e, _, ts, h1, _, h2⟩ := h
  injection e with e
  subst e
  rw [Try.types27] at h1
  injection h1 with h1
  subst h1
  obtain ⟨u, h3, h4⟩ := h2 3 vo rfl
  simp at h3
  subst h3
  exact cell_lt_of Try.underlying25 h4
theorem Try.cellsOf42 : Try.prog.cellsOf 42 = 36 := by kernel_rfl
theorem Try.types42 : Try.prog.cellTypes Try.prog.depth 42 = some (List.replicate 32 5 ++ [3, 3, 24, 25]) := by kernel_rfl
theorem entry_of_trod {H : Type} {enc : TypeId × Value → H} {W : World} {sp : Nat → Bool} {held : Bool} {n base : Nat} {cs : List Value} {x : DataW H × List MemPlace} (hf : DataW.trod enc Try.prog W base sp held n 42 cs = some x) (hw : ∀ n ∈ x.1.weights Try.prog 42, n ≤ reachBytes) :
    ∃ (h : Hs) (N : NodeV) (vp vo : Value), cs = enL h.f (ndA N.au N.ck vp vo) ∧ Sh.HRow W vp N.ps ∧ N.ps.length ≤ 4398046511104 ∧ OpsAt W vo N.ops ∧ (∀ q ∈ N.ops, OpOk q) ∧ N.ops.length ≤ 4398046511104 ∧ (-9223372036854775808 ≤ N.au ∧ N.au ≤ 9223372036854775807) ∧ (-9223372036854775808 ≤ N.ck ∧ N.ck ≤ 9223372036854775807) := by
  obtain ⟨y0, y1, k, hx, hl, h0, h1⟩ := trod_struct2 Try.underlying42 hf
  rw [Try.cellsOf42] at hl
  simp only [Try.cellsOf40, Try.cellsOf27, List.drop_zero] at h0 h1
  obtain ⟨h, eh⟩ := hashH_of_trod h0
  obtain ⟨N, vp, vo, e1, r1, r2, r3, r4, r5, r6, r7⟩ := node_of_trod h1 (fun n hn => hw n (by
    rw [hx]
    simp only [DataW.weights, Try.underlying42]
    exact DataW.weights_mem_each (j := 1) (t := 27) rfl rfl n hn))
  refine ⟨h, N, vp, vo, ?_, r1, r2, r3, r4, r5, r6, r7⟩
  have e2 : (cs.drop 32).take 4 = cs.drop 32 := List.take_of_length_le (by rw [List.length_drop]; omega)
  rw [← List.take_append_drop 32 cs, eh]
  rw [e2] at e1
  rw [e1]
  rfl
theorem enA_35 (f : Nat → Int) (a c : Int) (vp vo : Value) : (enA f (ndA a c vp vo))[35]? = some vo := by
  simp only [enA, enL, List.getElem?_toArray]
  rw [List.getElem?_append_right (by simp [bytesA_size])]
  simp [bytesA_size, ndA]
set_option maxRecDepth 8000 in
theorem wide_entry_lt {W : World} {r : Reach} {base : Nat} {f : Nat → Int} {a c : Int} {vp vo : Value} (h : Value.okWide Try.prog W r base 42 (.agg (enA f (ndA a c vp vo)))) : ∀ k, vo.ownBlock = some k → k < W.heap.size := by
  unfold Value.okWide at h
  simp only [Try.underlying42] at h
  obtain ⟨cs, e, _, ts, h1, _, h2⟩ := h
  injection e with e
  subst e
  rw [Try.types42] at h1
  injection h1 with h1
  subst h1
  obtain ⟨u, h3, h4⟩ := h2 35 vo (enA_35 f a c vp vo)
  simp at h3
  subst h3
  exact cell_lt_of Try.underlying25 h4
end Go.Proofs.Ytgpgnldcdimmbaa
