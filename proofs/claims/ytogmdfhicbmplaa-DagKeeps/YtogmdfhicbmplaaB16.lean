import Derived.Test.YtogmdfhicbmplaaB15
import Derived.Test.YtogmdfhicbmplaaB14
import Derived.ProofKit
import Derived.OpenShut
import Derived.ChangeOld
import Derived.Below
import Derived.SizedLaws
import Derived.Deep.Slices
namespace Go.Proofs.Ytogmdfhicbmplaa
open Go.ChangeShapes Go.WideShapes Go.ChangeAt Go.RowKit Go.Deep
set_option linter.unusedSimpArgs false
set_option linter.unusedVariables false

theorem Try.cellsOf36 : Try.prog.cellsOf 36 = 32 := by kernel_rfl
theorem Try.cellsOf37 : Try.prog.cellsOf 37 = 1 := by kernel_rfl
theorem Try.cellsOf39 : Try.prog.cellsOf 39 = 34 := by kernel_rfl
theorem Try.cellsOf3 : Try.prog.cellsOf 3 = 1 := by kernel_rfl
theorem Try.cellsOf5 : Try.prog.cellsOf 5 = 1 := by kernel_rfl
theorem Try.bytesOf36 : Try.prog.bytesOf 36 = 32 := by kernel_rfl
theorem reach_is : reachBytes = 140737488351232 := by decide
theorem add_none' (b o i : Nat) : (⟨b, o, none⟩ : Addr).add i = ⟨b, o + i, none⟩ := by
  cases i with
  | zero => rfl
  | succ i => rfl
theorem mem_weightsAll {H : Type} {P : Program} {e : TypeId} {d : DataW H} : ∀ {ds : List (DataW H)}, d ∈ ds → ∀ n ∈ d.weights P e, n ∈ DataW.weightsAll P e ds
  | d0 :: ds, h, n, hn => by
    simp only [DataW.weightsAll, List.mem_append]
    rcases List.mem_cons.1 h with rfl | h
    · exact .inl hn
    · exact .inr (mem_weightsAll h n hn)
theorem wf_u8 {n : Int} (h : (Lit.int .u8 n).wf = true) : 0 ≤ n ∧ n < 256 := by
  have h1 : IntKind.u8.min = 0 := by decide
  have h2 : IntKind.u8.max = 255 := by decide
  simp only [Lit.wf, h1, h2, Bool.and_eq_true, decide_eq_true_eq] at h
  omega
theorem wf_i64 {n : Int} (h : (Lit.int .i64 n).wf = true) : -9223372036854775808 ≤ n ∧ n ≤ 9223372036854775807 := by
  have h1 : IntKind.i64.min = -9223372036854775808 := by decide
  have h2 : IntKind.i64.max = 9223372036854775807 := by decide
  simp only [Lit.wf, h1, h2, Bool.and_eq_true, decide_eq_true_eq] at h
  omega

theorem take_one {l : List Value} {i : Nat} {v : Value} (h : (l.drop i).take 1 = [v]) : l[i]? = some v := by
  have h2 : ((l.drop i).take 1)[0]? = some v := by rw [h]; rfl
  rw [List.getElem?_take, if_pos (by omega), List.getElem?_drop] at h2
  simpa using h2
theorem hash_of_trod {H : Type} {enc : TypeId × Value → H} {W : World} {sp : Nat → Bool} {held : Bool} {n base : Nat} {l : List Value} {x : DataW H × List MemPlace} (hf : DataW.trod enc Try.prog W base sp held n 36 l = some x) :
    ∃ c : Nat → Int, l = (bytesA 32 c).toList ∧ ∀ i, i < 32 → 0 ≤ c i ∧ c i < 256 := by
  obtain ⟨xs, m, _, _, hl, hx, hel⟩ := DataW.trod_array Try.underlying36 hf
  rw [Try.cellsOf36] at hl
  rw [Try.cellsOf5] at hel
  have each : ∀ i, i < 32 → ∃ z : Int, l[i]? = some (.int .u8 z) ∧ 0 ≤ z ∧ z < 256 := by
    intro i hi
    have h1 := hel i hi
    rw [List.getElem?_eq_getElem (by omega), Nat.mul_one] at h1
    obtain ⟨z, hz, _, hw⟩ := DataW.trod_int Try.underlying5 h1
    have hb := wf_u8 hw
    exact ⟨z, take_one hz, by omega, by omega⟩
  obtain ⟨c, hc⟩ := Go.Deep.choose_lt each
  refine ⟨c, ?_, fun i hi => (hc i hi).2⟩
  apply List.ext_getElem?
  intro i
  by_cases hi : i < 32
  · rw [(hc i hi).1, Array.getElem?_toList, bytesA_get _ _ _ hi]
  · rw [List.getElem?_eq_none (by omega), List.getElem?_eq_none (by rw [Array.length_toList, bytesA_size]; omega)]
theorem hashH_of_trod {H : Type} {enc : TypeId × Value → H} {W : World} {sp : Nat → Bool} {held : Bool} {n base : Nat} {l : List Value} {x : DataW H × List MemPlace} (hf : DataW.trod enc Try.prog W base sp held n 36 l = some x) : ∃ h : Hs, l = encH h := by
  obtain ⟨c, e, h1⟩ := hash_of_trod hf
  exact ⟨Hs.mk' c h1, by rw [e, encH]; exact congrArg Array.toList (bytesA_congr fun i hi => (Hs.mk'_f c h1 i hi).symm)⟩
theorem trod_struct3 {H : Type} {enc : TypeId × Value → H} {P : Program} {w : World} {base : Nat} {spare : Nat → Bool} {held : Bool} {t : TypeId} {f0 f1 f2 : Field} {fuel : Nat} {cs : List Value} {x : DataW H × List MemPlace} (ht : P.underlying t = some (.struct #[f0, f1, f2])) (h : DataW.trod enc P w base spare held fuel t cs = some x) :
    ∃ y0 y1 y2 n, x.1 = .agg [y0.1, y1.1, y2.1] ∧ cs.length = P.cellsOf t ∧ DataW.trod enc P w base spare held n f0.type ((cs.drop f0.offset).take (P.cellsOf f0.type)) = some y0 ∧
      DataW.trod enc P w base spare held n f1.type ((cs.drop f1.offset).take (P.cellsOf f1.type)) = some y1 ∧ DataW.trod enc P w base spare held n f2.type ((cs.drop f2.offset).take (P.cellsOf f2.type)) = some y2 := by
  obtain ⟨xs, n, _, rfl, hl, hlen, hf⟩ := DataW.trod_struct ht h
  match xs, hlen with
  | [y0, y1, y2], _ => exact ⟨y0, y1, y2, n, by simp, hl, by simpa using hf 0 f0 rfl, by simpa using hf 1 f1 rfl, by simpa using hf 2 f2 rfl⟩
end Go.Proofs.Ytogmdfhicbmplaa
namespace Go.Proofs.Ytogmdfhicbmplaa
open Go.ChangeShapes Go.WideShapes Go.ChangeAt Go.RowKit Go.Deep
set_option linter.unusedSimpArgs false
set_option linter.unusedVariables false

theorem Try.cellsOf41 : Try.prog.cellsOf 41 = 68 := by kernel_rfl
theorem Try.bytesOf41 : Try.prog.bytesOf 41 = 112 := by kernel_rfl
theorem Try.undO : Try.prog.underlying 24 = some (.slice 41) := by kernel_rfl
theorem trod_struct4 {H : Type} {enc : TypeId × Value → H} {P : Program} {w : World} {base : Nat} {spare : Nat → Bool} {held : Bool} {t : TypeId} {f0 f1 f2 f3 : Field} {fuel : Nat} {cs : List Value} {x : DataW H × List MemPlace} (ht : P.underlying t = some (.struct #[f0, f1, f2, f3])) (h : DataW.trod enc P w base spare held fuel t cs = some x) :
    ∃ y0 y1 y2 y3 n, x.1 = .agg [y0.1, y1.1, y2.1, y3.1] ∧ cs.length = P.cellsOf t ∧ DataW.trod enc P w base spare held n f0.type ((cs.drop f0.offset).take (P.cellsOf f0.type)) = some y0 ∧
      DataW.trod enc P w base spare held n f1.type ((cs.drop f1.offset).take (P.cellsOf f1.type)) = some y1 ∧ DataW.trod enc P w base spare held n f2.type ((cs.drop f2.offset).take (P.cellsOf f2.type)) = some y2 ∧ DataW.trod enc P w base spare held n f3.type ((cs.drop f3.offset).take (P.cellsOf f3.type)) = some y3 := by
  obtain ⟨xs, n, _, rfl, hl, hlen, hf⟩ := DataW.trod_struct ht h
  match xs, hlen with
  | [y0, y1, y2, y3], _ => exact ⟨y0, y1, y2, y3, n, by simp, hl, by simpa using hf 0 f0 rfl, by simpa using hf 1 f1 rfl, by simpa using hf 2 f2 rfl, by simpa using hf 3 f3 rfl⟩
end Go.Proofs.Ytogmdfhicbmplaa
namespace Go.Proofs.Ytogmdfhicbmplaa
open Go.ChangeShapes Go.WideShapes Go.ChangeAt Go.RowKit Go.Deep
set_option linter.unusedSimpArgs false
set_option linter.unusedVariables false

theorem hs_of_trodK {H : Type} {enc : TypeId × Value → H} {W : World} {sp : Nat → Bool} {held : Bool} {fuel base : Nat} {v : Value} {x : DataW H × List MemPlace} (hf : DataW.trod enc Try.prog W base sp held fuel 37 [v] = some x) (hw : ∀ n ∈ x.1.weights Try.prog 37, n ≤ reachBytes) :
    ∃ l : List Hs, HRow W v l ∧ l.length ≤ 4398046510976 := by
  rcases open_slice Try.underlying37 hf with ⟨hcs, _⟩ | ⟨a, len, cap, m, n, D, Pl, hcs, _, hl_, hm, hz, hx, hcell⟩
  · simp at hcs
    subst hcs
    exact ⟨[], .inl ⟨none, 0, rfl, rfl, fun _ => rfl⟩, by simp⟩
  · simp at hcs
    subst hcs
    have hlz : len ≤ m := by rw [hz]; split <;> omega
    have hb : len ≤ 4398046510976 := by
      have h1 := hw ((((List.range len).map D).length + ((List.range (m - len)).map fun j => D (len + j)).length) * 32) (by
        rw [hx]
        simp only [DataW.weights, Try.underlying37]
        simp [Try.bytesOf36])
      rw [reach_is] at h1
      simp only [List.length_map, List.length_range] at h1
      omega
    have each : ∀ i, i < len → ∃ q : Hs, ∀ j v, (encH q)[j]? = some v → W.cell? ((a.add (i * 32)).add j) = some v := by
      intro i hi
      obtain ⟨cs', h1, h2⟩ := hcell i (by omega)
      rw [Try.cellsOf36] at h1
      obtain ⟨_, hlen, hce⟩ := World.cells?_some h1
      obtain ⟨q, hqe⟩ := hashH_of_trod h2
      clear h2
      refine ⟨q, fun j v hv => ?_⟩
      obtain ⟨hj, e⟩ := List.getElem?_eq_some_iff.1 hv
      rw [encH_len] at hj
      rw [hce j (by omega), hqe, ← hv]
    obtain ⟨q, hq⟩ := Go.Deep.choose_lt each
    refine ⟨(List.range len).map q, ?_, by simpa using hb⟩
    by_cases h0 : len = 0
    · subst h0
      exact .inl ⟨some a, cap, rfl, rfl, fun h => by cases h⟩
    · have hs : a.spot = none := by
        have hv0 : (encH (q 0))[0]? = some (.int .u8 ((q 0).f 0)) := encH_get _ 0 (by omega)
        have := hq 0 (by omega) 0 _ hv0
        rw [Nat.zero_mul, show a.add 0 = a from rfl] at this
        rw [show a.add 0 = a from rfl] at this
        exact World.cell?_spot this
      obtain ⟨b, off, sp⟩ := a
      obtain rfl : sp = none := hs
      refine .inr ⟨b, off, cap, by simp, by simp; omega, fun j v hv => ?_⟩
      have hj : j < len * 32 := by
        have := (List.getElem?_eq_some_iff.1 hv).1
        rw [flatH_len] at this
        simpa using this
      have hi : j / 32 < ((List.range len).map q).length := by simp; omega
      have hg := flatH_get ((List.range len).map q) (j / 32) hi (j % 32) (Nat.mod_lt _ (by omega))
      rw [show j / 32 * 32 + j % 32 = j by omega, hv] at hg
      have := hq (j / 32) (by simpa using hi) (j % 32) v (by rw [hg]; simp)
      simp only [add_none'] at this
      rwa [show off + j / 32 * 32 + j % 32 = off + j by omega] at this
theorem vtx_of_trodK {H : Type} {enc : TypeId × Value → H} {W : World} {sp : Nat → Bool} {held : Bool} {n base : Nat} {cs : List Value} {x : DataW H × List MemPlace} (hf : DataW.trod enc Try.prog W base sp held n 39 cs = some x) (hw : ∀ n ∈ x.1.weights Try.prog 39, n ≤ reachBytes) :
    ∃ q : VP, cs = encV q ∧ HRow W q.2 q.1.ps ∧ q.1.ps.length ≤ 4398046510976 := by
  obtain ⟨y0, y1, y2, k, hx, hl, h0, h1, h2⟩ := trod_struct3 Try.underlying39 hf
  rw [Try.cellsOf39] at hl
  simp only [Try.cellsOf36, Try.cellsOf37, Try.cellsOf3, List.drop_zero] at h0 h1 h2
  obtain ⟨h, e0⟩ := hashH_of_trod h0
  obtain ⟨n1, e1, w1⟩ := DataW.trod_int Try.underlying3 h1
  have e1 := take_one e1
  obtain ⟨p, hp⟩ : ∃ p, (cs.drop 33).take 1 = [p] := by
    have : ((cs.drop 33).take 1).length = 1 := by rw [List.length_take, List.length_drop]; omega
    exact List.length_eq_one_iff.1 this
  rw [hp] at h2
  obtain ⟨ps, r2, r2b⟩ := hs_of_trodK h2 (fun n hn => hw n (by
    rw [hx]
    simp only [DataW.weights, Try.underlying39]
    exact DataW.weights_mem_each (j := 2) (t := 37) rfl rfl n hn))
  refine ⟨(⟨h, n1, ps⟩, p), ?_, r2, r2b⟩
  have e2 := take_one hp
  apply List.ext_getElem?
  intro i
  show cs[i]? = (vtx h.f n1 p).toList[i]?
  unfold vtx
  rw [Array.toList_append]
  have hbl : (bytesA 32 h.f).toList.length = 32 := by rw [Array.length_toList, bytesA_size]
  by_cases hi : i < 32
  · rw [List.getElem?_append_left (by omega)]
    have : (cs.take 32)[i]? = (encH h)[i]? := by rw [e0]
    rw [List.getElem?_take, if_pos hi] at this
    exact this
  · rw [List.getElem?_append_right (by omega), hbl]
    rcases Nat.lt_or_ge i 34 with h34 | h34
    · have : i = 32 ∨ i = 33 := by omega
      rcases this with rfl | rfl
      · rw [e1]; rfl
      · rw [e2]; rfl
    · rw [List.getElem?_eq_none (by omega), List.getElem?_eq_none (by simp; omega)]
theorem op_of_trodK {H : Type} {enc : TypeId × Value → H} {W : World} {sp : Nat → Bool} {held : Bool} {n base : Nat} {cs : List Value} {x : DataW H × List MemPlace} (hf : DataW.trod enc Try.prog W base sp held n 41 cs = some x) (hw : ∀ n ∈ x.1.weights Try.prog 41, n ≤ reachBytes) :
    ∃ o : OP, cs = encO o ∧ HRow W o.q.2 o.q.1.ps ∧ o.q.1.ps.length ≤ 4398046510976 := by
  obtain ⟨y0, y1, y2, y3, k, hx, hl, h0, h1, h2, h3⟩ := trod_struct4 Try.underlying41 hf
  rw [Try.cellsOf41] at hl
  simp only [Try.cellsOf36, Try.cellsOf39, Try.cellsOf3, List.drop_zero] at h0 h1 h2 h3
  obtain ⟨n0, e0, w0⟩ := DataW.trod_int Try.underlying3 h0
  obtain ⟨n1, e1, w1⟩ := DataW.trod_int Try.underlying3 h1
  obtain ⟨q, e2, hq⟩ := vtx_of_trodK h2 (fun n hn => hw n (by
    rw [hx]
    simp only [DataW.weights, Try.underlying41]
    exact DataW.weights_mem_each (j := 2) (t := 39) rfl rfl n hn))
  obtain ⟨h, e3⟩ := hashH_of_trod h3
  refine ⟨⟨n0, n1, q, h⟩, ?_, hq⟩
  have s1 : cs = cs.take 1 ++ ((cs.drop 1).take 1 ++ ((cs.drop 2).take 34 ++ (cs.drop 36).take 32)) := by
    have a : (cs.drop 36).take 32 = cs.drop 36 := List.take_of_length_le (by rw [List.length_drop]; omega)
    have b : (cs.drop 2).take 34 ++ cs.drop 36 = cs.drop 2 := by have := List.take_append_drop 34 (cs.drop 2); rw [List.drop_drop] at this; exact this
    have c : (cs.drop 1).take 1 ++ cs.drop 2 = cs.drop 1 := by have := List.take_append_drop 1 (cs.drop 1); rw [List.drop_drop] at this; exact this
    rw [a, b, c, List.take_append_drop]
  have e0' : cs.take 1 = [.int .i64 n0] := e0
  rw [s1, e0', e1, e2, e3]
  show _ = (opA ⟨n0, n1, q, h⟩).toList
  unfold opA encV encH
  rw [Array.toList_append, Array.toList_append]
  simp only [List.append_assoc]
  rfl
theorem ops_of_trodK {H : Type} {enc : TypeId × Value → H} {W : World} {sp : Nat → Bool} {held : Bool} {fuel base : Nat} {v : Value} {x : DataW H × List MemPlace} (hf : DataW.trod enc Try.prog W base sp held fuel 24 [v] = some x) (hw : ∀ n ∈ x.1.weights Try.prog 24, n ≤ reachBytes) :
    ∃ S : List OP, ORow W v S ∧ (S.length : Int) ≤ 9223372036854775806 ∧ ∀ o ∈ S, o.q.1.ps.length ≤ 4398046510976 := by
  rcases open_slice Try.undO hf with ⟨hcs, _⟩ | ⟨a, len, cap, m, n, D, Pl, hcs, _, hl_, hm, hz, hx, hcell⟩
  · simp at hcs
    subst hcs
    exact ⟨[], ⟨.inl ⟨none, 0, rfl, rfl⟩, by simp⟩, by simp, by simp⟩
  · simp at hcs
    subst hcs
    have hlz : len ≤ m := by rw [hz]; split <;> omega
    have hb : len ≤ 4398046510976 := by
      have h1 := hw ((((List.range len).map D).length + ((List.range (m - len)).map fun j => D (len + j)).length) * 112) (by
        rw [hx]
        simp only [DataW.weights, Try.undO]
        simp [Try.bytesOf41])
      rw [reach_is] at h1
      simp only [List.length_map, List.length_range] at h1
      omega
    have hwD : ∀ i, i < len → ∀ n ∈ (D i).weights Try.prog 41, n ≤ reachBytes := fun i hi n hn => hw n (by
      rw [hx]
      simp only [DataW.weights, Try.undO]
      refine List.mem_cons_of_mem _ (List.mem_append_left _ (mem_weightsAll (d := D i) ?_ n hn))
      exact List.mem_map.2 ⟨i, List.mem_range.2 hi, rfl⟩)
    have each : ∀ i, i < len → ∃ q : OP, (∀ j v, (encO q)[j]? = some v → W.cell? ((a.add (i * 68)).add j) = some v) ∧ HRow W q.q.2 q.q.1.ps ∧ q.q.1.ps.length ≤ 4398046510976 := by
      intro i hi
      obtain ⟨cs', h1, h2⟩ := hcell i (by omega)
      rw [Try.cellsOf41] at h1
      obtain ⟨_, hlen, hce⟩ := World.cells?_some h1
      obtain ⟨q, hqe, hq2⟩ := op_of_trodK h2 (hwD i hi)
      clear h2
      refine ⟨q, fun j v hv => ?_, hq2⟩
      obtain ⟨hj, e⟩ := List.getElem?_eq_some_iff.1 hv
      rw [encO_len] at hj
      rw [hce j (by omega), hqe, ← hv]
    haveI : Inhabited OP := ⟨⟨0, 0, (⟨default, 0, []⟩, .slice none 0 0), default⟩⟩
    obtain ⟨q, hq⟩ := Go.Deep.choose_lt each
    refine ⟨(List.range len).map q, ⟨?_, fun u hu => ?_⟩, by simp; omega, fun u hu => ?_⟩
    · by_cases h0 : len = 0
      · subst h0
        exact .inl ⟨some a, cap, rfl, rfl⟩
      · have hs : a.spot = none := by
          have hv0 : (encO (q 0))[0]? = some (.int .i64 (q 0).k) := by unfold encO opA; rw [Array.toList_append, Array.toList_append, List.append_assoc]; rfl
          have := (hq 0 (by omega)).1 0 _ hv0
          rw [Nat.zero_mul, show a.add 0 = a from rfl] at this
          rw [show a.add 0 = a from rfl] at this
          exact World.cell?_spot this
        obtain ⟨b, off, sp⟩ := a
        obtain rfl : sp = none := hs
        refine .inr ⟨b, off, cap, by simp, by simp; omega, flat_of_elems encO_len fun i hi j v hv => ?_⟩
        have hi' : i < len := by simpa using hi
        have := (hq i hi').1 j v (by simpa using hv)
        simp only [add_none'] at this
        exact this
    · obtain ⟨i, hi, rfl⟩ := List.mem_map.1 hu
      exact ⟨(hq i (List.mem_range.1 hi)).2.1, Nat.le_trans (hq i (List.mem_range.1 hi)).2.2 (by omega)⟩
    · obtain ⟨i, hi, rfl⟩ := List.mem_map.1 hu
      exact (hq i (List.mem_range.1 hi)).2.2
end Go.Proofs.Ytogmdfhicbmplaa
