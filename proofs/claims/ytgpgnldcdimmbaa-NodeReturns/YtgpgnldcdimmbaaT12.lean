import Derived.Test.YtgpgnldcdimmbaaT05
import Derived.Test.YtgpgnldcdimmbaaT08
import Derived.ProofKit
import Derived.OpenShut
import Derived.ShutString
import Derived.ChangeOld
import Derived.Below
import Derived.SizedLaws
import Derived.Deep.Slices
import Derived.Deep.Strs
namespace Go.Proofs.Ytgpgnldcdimmbaa
open Go.ChangeShapes Go.WideShapes Go.ChangeAt Go.RowKit Go.Deep

theorem Try.cellsOf79 : Try.prog.cellsOf 79 = 37 := by kernel_rfl
theorem Try.cellsOf77 : Try.prog.cellsOf 77 = 33 := by kernel_rfl
theorem Try.cellsOf40 : Try.prog.cellsOf 40 = 32 := by kernel_rfl
theorem Try.cellsOf28 : Try.prog.cellsOf 28 = 1 := by kernel_rfl
theorem Try.cellsOf3 : Try.prog.cellsOf 3 = 1 := by kernel_rfl
theorem Try.cellsOf2 : Try.prog.cellsOf 2 = 1 := by kernel_rfl
theorem Try.cellsOf9 : Try.prog.cellsOf 9 = 1 := by kernel_rfl
theorem Try.cellsOf5 : Try.prog.cellsOf 5 = 1 := by kernel_rfl
theorem Try.bytesOf79 : Try.prog.bytesOf 79 = 88 := by kernel_rfl
theorem Try.bytesOf5 : Try.prog.bytesOf 5 = 1 := by kernel_rfl
theorem reach_is : reachBytes = 140737488351232 := by decide
theorem add_none' (b o i : Nat) : (⟨b, o, none⟩ : Addr).add i = ⟨b, o + i, none⟩ := by
  cases i with
  | zero => rfl
  | succ i => rfl
theorem mem_weightsAll {H : Type} {P : Program} {e : TypeId} {d : DataW H} : ∀ {ds : List (DataW H)}, d ∈ ds → ∀ n ∈ d.weights P e, n ∈ DataW.weightsAll P e ds
  | d0 :: ds, h, n, hn => by
    simp only [DataW.weightsAll, List.mem_append]
    rcases List.mem_cons.1 h with rfl | h
    · exact .inl hn
    · exact .inr (mem_weightsAll h n hn)
theorem wf_u8 {n : Int} (h : (Lit.int .u8 n).wf = true) : 0 ≤ n ∧ n < 256 := by
  have h1 : IntKind.u8.min = 0 := by decide
  have h2 : IntKind.u8.max = 255 := by decide
  simp only [Lit.wf, h1, h2, Bool.and_eq_true, decide_eq_true_eq] at h
  omega
theorem wf_i64 {n : Int} (h : (Lit.int .i64 n).wf = true) : -9223372036854775808 ≤ n ∧ n ≤ 9223372036854775807 := by
  have h1 : IntKind.i64.min = -9223372036854775808 := by decide
  have h2 : IntKind.i64.max = 9223372036854775807 := by decide
  simp only [Lit.wf, h1, h2, Bool.and_eq_true, decide_eq_true_eq] at h
  omega

theorem row_of_trod {H : Type} {enc : TypeId × Value → H} {W : World} {sp : Nat → Bool} {held : Bool} {n base : Nat} {v : Value} {x : DataW H × List MemPlace} (hf : DataW.trod enc Try.prog W base sp held n 28 [v] = some x) (hw : ∀ n ∈ x.1.weights Try.prog 28, n ≤ reachBytes) :
    ∃ l : List Int, RowAt W v l ∧ Byts l ∧ l.length ≤ 140737488351232 := by
  rcases open_ints Try.underlying28 Try.underlying5 Try.cellsOf5 hf with ⟨hcs, _⟩ | ⟨a, len, cap, zs, hcs, _, hl, hm, hz, hx, hcell, hwz⟩
  · simp at hcs
    subst hcs
    exact ⟨[], .inl ⟨rfl, rfl⟩, Byts.nil, by simp⟩
  · simp at hcs
    subst hcs
    unfold maxLen at hm
    have hlz : len ≤ zs.length := by rw [hz]; split <;> omega
    have hbz : Byts zs := fun c hc => wf_u8 (hwz c hc)
    have hb : len ≤ 140737488351232 := by
      have h1 := hw ((zs.take len).length + (zs.drop len).length) (by
        rw [hx]
        simp only [DataW.weights, Try.underlying28]
        simp [lits, Try.bytesOf5])
      rw [List.length_take, reach_is] at h1
      omega
    by_cases h0 : len = 0
    · subst h0
      exact ⟨[], .inr (.inl ⟨a, cap, rfl, rfl⟩), Byts.nil, by simp⟩
    · have hs : a.spot = none := by
        have := hcell 0 (by omega)
        rw [show a.add 0 = a from rfl] at this
        exact World.cell?_spot this
      obtain ⟨b, off, sp⟩ := a
      obtain rfl : sp = none := hs
      have hlen : (zs.take len).length = len := by rw [List.length_take]; omega
      refine ⟨zs.take len, .inr (.inr ⟨b, off, cap, by rw [hlen], by omega, fun i hi => ?_⟩), hbz.take len, by omega⟩
      rw [hlen] at hi
      have := hcell i (by omega)
      rw [add_none'] at this
      rw [this]
      simp [List.getD, hi]

theorem trod_struct5 {H : Type} {enc : TypeId × Value → H} {P : Program} {w : World} {base : Nat} {spare : Nat → Bool} {held : Bool} {t : TypeId} {f0 f1 f2 f3 f4 : Field} {fuel : Nat} {cs : List Value} {x : DataW H × List MemPlace} (ht : P.underlying t = some (.struct #[f0, f1, f2, f3, f4])) (h : DataW.trod enc P w base spare held fuel t cs = some x) :
    ∃ y0 y1 y2 y3 y4 n, x.1 = .agg [y0.1, y1.1, y2.1, y3.1, y4.1] ∧ cs.length = P.cellsOf t ∧ DataW.trod enc P w base spare held n f0.type ((cs.drop f0.offset).take (P.cellsOf f0.type)) = some y0 ∧
      DataW.trod enc P w base spare held n f1.type ((cs.drop f1.offset).take (P.cellsOf f1.type)) = some y1 ∧ DataW.trod enc P w base spare held n f2.type ((cs.drop f2.offset).take (P.cellsOf f2.type)) = some y2 ∧ DataW.trod enc P w base spare held n f3.type ((cs.drop f3.offset).take (P.cellsOf f3.type)) = some y3 ∧ DataW.trod enc P w base spare held n f4.type ((cs.drop f4.offset).take (P.cellsOf f4.type)) = some y4 := by
  obtain ⟨xs, n, _, rfl, hl, hlen, hf⟩ := DataW.trod_struct ht h
  match xs, hlen with
  | [y0, y1, y2, y3, y4], _ => exact ⟨y0, y1, y2, y3, y4, n, by simp, hl, by simpa using hf 0 f0 rfl, by simpa using hf 1 f1 rfl, by simpa using hf 2 f2 rfl, by simpa using hf 3 f3 rfl, by simpa using hf 4 f4 rfl⟩
theorem trod_struct2 {H : Type} {enc : TypeId × Value → H} {P : Program} {w : World} {base : Nat} {spare : Nat → Bool} {held : Bool} {t : TypeId} {f0 f1 : Field} {fuel : Nat} {cs : List Value} {x : DataW H × List MemPlace} (ht : P.underlying t = some (.struct #[f0, f1])) (h : DataW.trod enc P w base spare held fuel t cs = some x) :
    ∃ y0 y1 n, x.1 = .agg [y0.1, y1.1] ∧ cs.length = P.cellsOf t ∧ DataW.trod enc P w base spare held n f0.type ((cs.drop f0.offset).take (P.cellsOf f0.type)) = some y0 ∧
      DataW.trod enc P w base spare held n f1.type ((cs.drop f1.offset).take (P.cellsOf f1.type)) = some y1 := by
  obtain ⟨xs, n, _, rfl, hl, hlen, hf⟩ := DataW.trod_struct ht h
  match xs, hlen with
  | [y0, y1], _ => exact ⟨y0, y1, n, by simp, hl, by simpa using hf 0 f0 rfl, by simpa using hf 1 f1 rfl⟩
theorem take_one {l : List Value} {i : Nat} {v : Value} (h : (l.drop i).take 1 = [v]) : l[i]? = some v := by
  have h2 : ((l.drop i).take 1)[0]? = some v := by rw [h]; rfl
  rw [List.getElem?_take, if_pos (by omega), List.getElem?_drop] at h2
  simpa using h2
theorem hash_of_trod {H : Type} {enc : TypeId × Value → H} {W : World} {sp : Nat → Bool} {held : Bool} {n base : Nat} {l : List Value} {x : DataW H × List MemPlace} (hf : DataW.trod enc Try.prog W base sp held n 40 l = some x) :
    ∃ c : List Int, l = bv (hl 32 (hof c)) ∧ c.length = 32 ∧ Byts c := by
  obtain ⟨xs, m, _, _, hl_, hx, hel⟩ := DataW.trod_array Try.underlying40 hf
  rw [Try.cellsOf40] at hl_
  rw [Try.cellsOf5] at hel
  have each : ∀ i, i < 32 → ∃ z : Int, l[i]? = some (.int .u8 z) ∧ 0 ≤ z ∧ z < 256 := by
    intro i hi
    have h1 := hel i hi
    rw [List.getElem?_eq_getElem (by omega), Nat.mul_one] at h1
    obtain ⟨z, hz, _, hw⟩ := DataW.trod_int Try.underlying5 h1
    have hb := wf_u8 hw
    exact ⟨z, take_one hz, by omega, by omega⟩
  obtain ⟨c, hc⟩ := Go.Deep.choose_lt each
  refine ⟨hl 32 c, ?_, hl_len _ _, fun z hz => ?_⟩
  · rw [hl_of, ← hl_bytesA]
    apply List.ext_getElem?
    intro i
    by_cases hi : i < 32
    · rw [(hc i hi).1, Array.getElem?_toList, bytesA_get _ _ _ hi]
    · rw [List.getElem?_eq_none (by omega), List.getElem?_eq_none (by rw [Array.length_toList, bytesA_size]; omega)]
  · unfold hl at hz
    obtain ⟨i, hi, rfl⟩ := List.mem_map.1 hz
    exact (hc i (List.mem_range.1 hi)).2
theorem one_of {cs : List Value} {v : Value} {j : Nat} (h : (cs.drop j).take 1 = [v]) : cs[j]? = some v := take_one h
theorem op_of_trod {H : Type} {enc : TypeId × Value → H} {W : World} {sp : Nat → Bool} {held : Bool} {n base : Nat} {cs : List Value} {x : DataW H × List MemPlace} (hf : DataW.trod enc Try.prog W base sp held n 79 cs = some x) (hw : ∀ n ∈ x.1.weights Try.prog 79, n ≤ reachBytes) :
    ∃ q : OpV, cs = opL q ∧ OpOk q := by
  obtain ⟨y0, y1, y2, y3, y4, k, hx, hl0, h0, h1, h2, h3, h4⟩ := trod_struct5 Try.underlying79 hf
  rw [Try.cellsOf79] at hl0
  simp only [Try.cellsOf3, Try.cellsOf9, Try.cellsOf2, Try.cellsOf77] at h0 h1 h2 h3 h4
  obtain ⟨z0, e0, _, w0⟩ := DataW.trod_int Try.underlying3 h0
  obtain ⟨s1, e1, f1, w1⟩ := DataW.trod_string Try.underlying9 h1
  obtain ⟨s2, e2, f2, w2⟩ := DataW.trod_string Try.underlying9 h2
  obtain ⟨z3, e3, _, w3⟩ := DataW.trod_int Try.underlying2 h3
  obtain ⟨a0, a1, k2, hx4, hl4, g0, g1⟩ := trod_struct2 Try.underlying77 h4
  rw [Try.cellsOf77] at hl4
  simp only [Try.cellsOf40, Try.cellsOf3] at g0 g1
  obtain ⟨c, ec, hc1, hc2⟩ := hash_of_trod g0
  obtain ⟨z4, e4, _, w4⟩ := DataW.trod_int Try.underlying3 g1
  have b0 := wf_i64 w0
  have b3 := wf_i64 w3
  have b4 := wf_i64 w4
  have kb1 : s1.size ≤ reachBytes := hw s1.size (by
    rw [hx]
    simp only [DataW.weights, Try.underlying79]
    refine DataW.weights_mem_each (j := 1) (t := 9) rfl rfl _ ?_
    rw [f1]
    simp [DataW.weights])
  have kb2 : s2.size ≤ reachBytes := hw s2.size (by
    rw [hx]
    simp only [DataW.weights, Try.underlying79]
    refine DataW.weights_mem_each (j := 2) (t := 9) rfl rfl _ ?_
    rw [f2]
    simp [DataW.weights])
  rw [reach_is] at kb1 kb2
  refine ⟨⟨z0, s1, s2, z3, c, z4⟩, ?_, ⟨hc1, hc2, b0.1, b0.2, b3.1, b3.2, b4.1, b4.2, by simp only; omega, by simp only; omega⟩⟩
  have q0 : cs[0]? = some (.int .i64 z0) := one_of (by simpa using e0)
  have q1 : cs[1]? = some (.string s1) := one_of (by simpa using e1)
  have q2 : cs[2]? = some (.string s2) := one_of (by simpa using e2)
  have q3 : cs[3]? = some (.int .i64 z3) := one_of (by simpa using e3)
  have hd : cs.drop 4 = idL c z4 := by
    have hfull : (cs.drop 4).take 33 = cs.drop 4 := List.take_of_length_le (by rw [List.length_drop]; omega)
    rw [hfull] at ec e4
    have q4 : (cs.drop 4)[32]? = some (.int .i64 z4) := one_of (by simpa using e4)
    rw [List.drop_zero] at ec
    unfold idL
    rw [← ec, ← List.take_append_drop 32 (cs.drop 4)]
    congr 1
    · rw [List.take_append_drop]
    · apply List.ext_getElem?
      intro i
      match i with
      | 0 => rw [List.getElem?_drop]; simpa using q4
      | i + 1 => rw [List.getElem?_eq_none (by rw [List.length_drop, List.length_drop]; omega)]; simp
  unfold opL
  rw [← hd, ← List.take_append_drop 4 cs]
  congr 1
  · apply List.ext_getElem?
    intro i
    match i with
    | 0 => rw [List.getElem?_take, if_pos (by omega), q0]; rfl
    | 1 => rw [List.getElem?_take, if_pos (by omega), q1]; rfl
    | 2 => rw [List.getElem?_take, if_pos (by omega), q2]; rfl
    | 3 => rw [List.getElem?_take, if_pos (by omega), q3]; rfl
    | i + 4 => rw [List.getElem?_eq_none (by rw [List.length_take]; omega)]; simp
  · rw [List.take_append_drop]
theorem ops_of_trod {H : Type} {enc : TypeId × Value → H} {W : World} {sp : Nat → Bool} {held : Bool} {fuel base : Nat} {v : Value} {x : DataW H × List MemPlace} (hf : DataW.trod enc Try.prog W base sp held fuel 25 [v] = some x) (hw : ∀ n ∈ x.1.weights Try.prog 25, n ≤ reachBytes) :
    ∃ l : List OpV, OpsAt W v l ∧ (∀ q ∈ l, OpOk q) ∧ l.length ≤ 4398046511104 := by
  rcases open_slice Try.underlying25 hf with ⟨hcs, _⟩ | ⟨a, len, cap, m, n, D, Pl, hcs, _, hl_, hm, hz, hx, hcell⟩
  · simp at hcs
    subst hcs
    exact ⟨[], .inl ⟨none, 0, rfl, rfl⟩, by simp, by simp⟩
  · simp at hcs
    subst hcs
    have hlz : len ≤ m := by rw [hz]; split <;> omega
    have hb : len ≤ 4398046511104 := by
      have h1 := hw ((((List.range len).map D).length + ((List.range (m - len)).map fun j => D (len + j)).length) * 88) (by
        rw [hx]
        simp only [DataW.weights, Try.underlying25]
        simp [Try.bytesOf79])
      rw [reach_is] at h1
      simp only [List.length_map, List.length_range] at h1
      omega
    have hwD : ∀ i, i < len → ∀ n ∈ (D i).weights Try.prog 79, n ≤ reachBytes := fun i hi n hn => hw n (by
      rw [hx]
      simp only [DataW.weights, Try.underlying25]
      refine List.mem_cons_of_mem _ (List.mem_append_left _ (mem_weightsAll (d := D i) ?_ n hn))
      exact List.mem_map.2 ⟨i, List.mem_range.2 hi, rfl⟩)
    have each : ∀ i, i < len → ∃ q : OpV, (∀ j v, (opL q)[j]? = some v → W.cell? ((a.add (i * 37)).add j) = some v) ∧ OpOk q := by
      intro i hi
      obtain ⟨cs', h1, h2⟩ := hcell i (by omega)
      rw [Try.cellsOf79] at h1
      obtain ⟨_, hlen, hce⟩ := World.cells?_some h1
      obtain ⟨q, rfl, h3⟩ := op_of_trod h2 (hwD i hi)
      refine ⟨q, fun j v hv => ?_, h3⟩
      obtain ⟨hj, e⟩ := List.getElem?_eq_some_iff.1 hv
      rw [opL_len] at hj
      rw [hce j (by omega), ← hv]
    haveI : Inhabited OpV := ⟨zeroOp⟩
    obtain ⟨q, hq⟩ := Go.Deep.choose_lt each
    refine ⟨(List.range len).map q, ?_, ?_, by simpa using hb⟩
    · by_cases h0 : len = 0
      · subst h0
        exact .inl ⟨_, _, rfl, rfl⟩
      · have hs : a.spot = none := by
          have := (hq 0 (by omega)).1 0 _ (show (opL (q 0))[0]? = some (.int .i64 (q 0).kind) by simp [opL])
          rw [Nat.zero_mul, show a.add 0 = a from rfl] at this
          rw [show a.add 0 = a from rfl] at this
          exact World.cell?_spot this
        obtain ⟨b, off, sp⟩ := a
        obtain rfl : sp = none := hs
        refine .inr ⟨b, off, cap, by simp, by simp; omega, fun i x hxi j v hv => ?_⟩
        obtain ⟨hi, e⟩ := List.getElem?_eq_some_iff.1 hxi
        simp at hi e
        subst e
        have := (hq i hi).1 j v hv
        simp only [add_none'] at this
        exact this
    · intro z hz'
      obtain ⟨i, hi, rfl⟩ := List.mem_map.1 hz'
      exact (hq i (List.mem_range.1 hi)).2
set_option maxRecDepth 8000 in
theorem wide_lt {W : World} {r : Reach} {base : Nat} {t e : TypeId} (hu : Try.prog.underlying t = some (.slice e)) {a : Option Addr} {n c : Nat} (h : Value.okWide Try.prog W r base t (.slice a n c)) : ∀ k, (Value.slice a n c).ownBlock = some k → k < W.heap.size := by
  intro k hk
  cases a with
  | none => simp [Value.ownBlock] at hk
  | some ad =>
    simp [Value.ownBlock] at hk
    subst hk
    unfold Value.okWide at h
    simp only [hu] at h
    unfold Cell.okWide at h
    simp only [hu] at h
    unfold Cell.ok at h
    simp only [hu] at h
    obtain ⟨_, _, _, _, row, cells, hs, _⟩ := h
    apply Nat.lt_of_not_le
    intro hle
    simp [World.shape?, Array.getElem?_eq_none hle] at hs
theorem Try.cellsOf27 : Try.prog.cellsOf 27 = 4 := by kernel_rfl
theorem Try.cellsOf24 : Try.prog.cellsOf 24 = 1 := by kernel_rfl
theorem Try.cellsOf25 : Try.prog.cellsOf 25 = 1 := by kernel_rfl
theorem Try.bytesOf40 : Try.prog.bytesOf 40 = 32 := by kernel_rfl
theorem Try.types27 : Try.prog.cellTypes Try.prog.depth 27 = some [3, 3, 24, 25] := by kernel_rfl
theorem hashH_of_trod {H : Type} {enc : TypeId × Value → H} {W : World} {sp : Nat → Bool} {held : Bool} {n base : Nat} {l : List Value} {x : DataW H × List MemPlace} (hf : DataW.trod enc Try.prog W base sp held n 40 l = some x) : ∃ h : Hs, l = Sh.encH h := by
  obtain ⟨c, e, h1, h2⟩ := hash_of_trod hf
  exact ⟨hs c, by rw [e, encH_B, hB_hs c h1 h2, hl_hof c h1]⟩
theorem hs_of_trod {H : Type} {enc : TypeId × Value → H} {W : World} {sp : Nat → Bool} {held : Bool} {fuel base : Nat} {v : Value} {x : DataW H × List MemPlace} (hf : DataW.trod enc Try.prog W base sp held fuel 24 [v] = some x) (hw : ∀ n ∈ x.1.weights Try.prog 24, n ≤ reachBytes) :
    ∃ l : List Hs, Sh.HRow W v l ∧ l.length ≤ 4398046511104 := by
  rcases open_slice Try.underlying24 hf with ⟨hcs, _⟩ | ⟨a, len, cap, m, n, D, Pl, hcs, _, hl_, hm, hz, hx, hcell⟩
  · simp at hcs
    subst hcs
    exact ⟨[], .inl ⟨none, 0, rfl, rfl, fun _ => rfl⟩, by simp⟩
  · simp at hcs
    subst hcs
    have hlz : len ≤ m := by rw [hz]; split <;> omega
    have hb : len ≤ 4398046511104 := by
      have h1 := hw ((((List.range len).map D).length + ((List.range (m - len)).map fun j => D (len + j)).length) * 32) (by
        rw [hx]
        simp only [DataW.weights, Try.underlying24]
        simp [Try.bytesOf40])
      rw [reach_is] at h1
      simp only [List.length_map, List.length_range] at h1
      omega
    have each : ∀ i, i < len → ∃ q : Hs, ∀ j v, (Sh.encH q)[j]? = some v → W.cell? ((a.add (i * 32)).add j) = some v := by
      intro i hi
      obtain ⟨cs', h1, h2⟩ := hcell i (by omega)
      rw [Try.cellsOf40] at h1
      obtain ⟨_, hlen, hce⟩ := World.cells?_some h1
      obtain ⟨q, hqe⟩ := hashH_of_trod h2
      clear h2
      refine ⟨q, fun j v hv => ?_⟩
      obtain ⟨hj, e⟩ := List.getElem?_eq_some_iff.1 hv
      rw [Sh.encH_len] at hj
      rw [hce j (by omega), hqe, ← hv]
    obtain ⟨q, hq⟩ := Go.Deep.choose_lt each
    refine ⟨(List.range len).map q, ?_, by simpa using hb⟩
    by_cases h0 : len = 0
    · subst h0
      exact .inl ⟨some a, cap, rfl, rfl, fun h => by cases h⟩
    · have hs : a.spot = none := by
        have hv0 : (Sh.encH (q 0))[0]? = some (.int .u8 ((q 0).f 0)) := Sh.encH_get _ 0 (by omega)
        have := hq 0 (by omega) 0 _ hv0
        rw [Nat.zero_mul, show a.add 0 = a from rfl] at this
        rw [show a.add 0 = a from rfl] at this
        exact World.cell?_spot this
      obtain ⟨b, off, sp⟩ := a
      obtain rfl : sp = none := hs
      refine .inr ⟨b, off, cap, by simp, by simp; omega, fun j v hv => ?_⟩
      have hj : j < len * 32 := by
        have := (List.getElem?_eq_some_iff.1 hv).1
        rw [Sh.flatH_len] at this
        simpa using this
      have hi : j / 32 < ((List.range len).map q).length := by simp; omega
      have hg := Sh.flatH_get ((List.range len).map q) (j / 32) hi (j % 32) (Nat.mod_lt _ (by omega))
      rw [show j / 32 * 32 + j % 32 = j by omega, hv] at hg
      have := hq (j / 32) (by simpa using hi) (j % 32) v (by rw [hg]; simp)
      simp only [add_none'] at this
      rwa [show off + j / 32 * 32 + j % 32 = off + j by omega] at this
theorem trod_struct4 {H : Type} {enc : TypeId × Value → H} {P : Program} {w : World} {base : Nat} {spare : Nat → Bool} {held : Bool} {t : TypeId} {f0 f1 f2 f3 : Field} {fuel : Nat} {cs : List Value} {x : DataW H × List MemPlace} (ht : P.underlying t = some (.struct #[f0, f1, f2, f3])) (h : DataW.trod enc P w base spare held fuel t cs = some x) :
    ∃ y0 y1 y2 y3 n, x.1 = .agg [y0.1, y1.1, y2.1, y3.1] ∧ cs.length = P.cellsOf t ∧ DataW.trod enc P w base spare held n f0.type ((cs.drop f0.offset).take (P.cellsOf f0.type)) = some y0 ∧
      DataW.trod enc P w base spare held n f1.type ((cs.drop f1.offset).take (P.cellsOf f1.type)) = some y1 ∧ DataW.trod enc P w base spare held n f2.type ((cs.drop f2.offset).take (P.cellsOf f2.type)) = some y2 ∧ DataW.trod enc P w base spare held n f3.type ((cs.drop f3.offset).take (P.cellsOf f3.type)) = some y3 := by
  obtain ⟨xs, n, _, rfl, hl, hlen, hf⟩ := DataW.trod_struct ht h
  match xs, hlen with
  | [y0, y1, y2, y3], _ => exact ⟨y0, y1, y2, y3, n, by simp, hl, by simpa using hf 0 f0 rfl, by simpa using hf 1 f1 rfl, by simpa using hf 2 f2 rfl, by simpa using hf 3 f3 rfl⟩
theorem list4 (cs : List Value) (h : cs.length = 4) : ∃ a b c d, cs = [a, b, c, d] := by
  match cs, h with
  | [a, b, c, d], _ => exact ⟨a, b, c, d, rfl⟩
theorem node_of_trod {H : Type} {enc : TypeId × Value → H} {W : World} {sp : Nat → Bool} {held : Bool} {n base : Nat} {cs : List Value} {x : DataW H × List MemPlace} (hf : DataW.trod enc Try.prog W base sp held n 27 cs = some x) (hw : ∀ n ∈ x.1.weights Try.prog 27, n ≤ reachBytes) :
    ∃ (N : NodeV) (vp vo : Value), cs = [.int .i64 N.au, .int .i64 N.ck, vp, vo] ∧ Sh.HRow W vp N.ps ∧ N.ps.length ≤ 4398046511104 ∧ OpsAt W vo N.ops ∧ (∀ q ∈ N.ops, OpOk q) ∧ N.ops.length ≤ 4398046511104 ∧ (-9223372036854775808 ≤ N.au ∧ N.au ≤ 9223372036854775807) ∧ (-9223372036854775808 ≤ N.ck ∧ N.ck ≤ 9223372036854775807) := by
  obtain ⟨y0, y1, y2, y3, k, hx, hl, h0, h1, h2, h3⟩ := trod_struct4 Try.underlying27 hf
  rw [Try.cellsOf27] at hl
  obtain ⟨a, b, c, d, rfl⟩ := list4 cs hl
  simp only [Try.cellsOf3, Try.cellsOf24, Try.cellsOf25, List.drop_zero, List.take_succ_cons, List.take_zero, List.drop_succ_cons] at h0 h1 h2 h3
  obtain ⟨n0, e0, w0⟩ := DataW.trod_int Try.underlying3 h0
  obtain ⟨n1, e1, w1⟩ := DataW.trod_int Try.underlying3 h1
  obtain ⟨l, r1, r2⟩ := hs_of_trod h2 (fun n hn => hw n (by
    rw [hx]
    simp only [DataW.weights, Try.underlying27]
    exact DataW.weights_mem_each (j := 2) (t := 24) rfl rfl n hn))
  obtain ⟨m, q1, q2, q3⟩ := ops_of_trod h3 (fun n hn => hw n (by
    rw [hx]
    simp only [DataW.weights, Try.underlying27]
    exact DataW.weights_mem_each (j := 3) (t := 25) rfl rfl n hn))
  simp at e0 e1
  exact ⟨⟨n0, n1, l, m⟩, c, d, by rw [e0, e1], r1, r2, q1, q2, q3, wf_i64 w0.2, wf_i64 w1.2⟩
set_option maxRecDepth 8000 in
theorem cell_lt_of {W : World} {r : Reach} {base : Nat} {t e : TypeId} (hu : Try.prog.underlying t = some (.slice e)) {v : Value} (h : Cell.okWide Try.prog W r base t v) : ∀ k, v.ownBlock = some k → k < W.heap.size := by
  intro k hk
  cases v with
  | slice a n c =>
    cases a with
    | none => simp [Value.ownBlock] at hk
    | some ad =>
      simp [Value.ownBlock] at hk
      subst hk
      unfold Cell.okWide at h
      simp only [hu] at h
      unfold Cell.ok at h
      simp only [hu] at h
      obtain ⟨_, _, _, _, row, cells, hs, _⟩ := h
      apply Nat.lt_of_not_le
      intro hle
      simp [World.shape?, Array.getElem?_eq_none hle] at hs
  | _ =>
    unfold Cell.okWide at h
    simp only [hu] at h
    unfold Cell.ok at h
    simp only [hu] at h
set_option maxRecDepth 8000 in
theorem wide_node_lt {W : World} {r : Reach} {base : Nat} {a c : Int} {vp vo : Value} (h : Value.okWide Try.prog W r base 27 (.agg (ndA a c vp vo))) : ∀ k, vo.ownBlock = some k → k < W.heap.size := by
  unfold Value.okWide at h
  simp only [Try.underlying27] at h
  obtain ⟨cs, e, _, ts, h1, _, h2⟩ := h
  injection e with e
  subst e
  rw [Try.types27] at h1
  injection h1 with h1
  subst h1
  obtain ⟨u, h3, h4⟩ := h2 3 vo rfl
  simp at h3
  subst h3
  exact cell_lt_of Try.underlying25 h4
end Go.Proofs.Ytgpgnldcdimmbaa
