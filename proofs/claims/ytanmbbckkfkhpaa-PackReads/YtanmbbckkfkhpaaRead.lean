import Derived.Test.YtanmbbckkfkhpaaScr
import Derived.ProofKit
import Derived.OpenShut
import Derived.ShutString
import Derived.ChangeOld
import Derived.Below
import Derived.SizedLaws
import Derived.Deep.Slices
import Derived.Deep.Strs
namespace Go.Proofs.Ytanmbbckkfkhpaa
open Go.ChangeShapes Go.WideShapes Go.ChangeAt Go.RowKit Go.Deep

theorem Try.cellsOf43 : Try.prog.cellsOf 43 = 4 := by kernel_rfl
theorem Try.cellsOf36 : Try.prog.cellsOf 36 = 1 := by kernel_rfl
theorem Try.cellsOf3 : Try.prog.cellsOf 3 = 1 := by kernel_rfl
theorem Try.cellsOf41 : Try.prog.cellsOf 41 = 1 := by kernel_rfl
theorem Try.cellsOf5 : Try.prog.cellsOf 5 = 1 := by kernel_rfl
theorem Try.cellsOf4 : Try.prog.cellsOf 4 = 1 := by kernel_rfl
theorem Try.bytesOf43 : Try.prog.bytesOf 43 = 48 := by kernel_rfl
theorem Try.bytesOf5 : Try.prog.bytesOf 5 = 1 := by kernel_rfl
theorem Try.bytesOf3 : Try.prog.bytesOf 3 = 8 := by kernel_rfl
theorem reach_is : reachBytes = 140737488351232 := by decide
theorem add_none' (b o i : Nat) : (⟨b, o, none⟩ : Addr).add i = ⟨b, o + i, none⟩ := by
  cases i with
  | zero => rfl
  | succ i => rfl
theorem mem_weightsAll {H : Type} {P : Program} {e : TypeId} {d : DataW H} : ∀ {ds : List (DataW H)}, d ∈ ds → ∀ n ∈ d.weights P e, n ∈ DataW.weightsAll P e ds
  | d0 :: ds, h, n, hn => by
    simp only [DataW.weightsAll, List.mem_append]
    rcases List.mem_cons.1 h with rfl | h
    · exact .inl hn
    · exact .inr (mem_weightsAll h n hn)
theorem wf_u8 {n : Int} (h : (Lit.int .u8 n).wf = true) : 0 ≤ n ∧ n < 256 := by
  have h1 : IntKind.u8.min = 0 := by decide
  have h2 : IntKind.u8.max = 255 := by decide
  simp only [Lit.wf, h1, h2, Bool.and_eq_true, decide_eq_true_eq] at h
  omega
theorem wf_u64 {n : Int} (h : (Lit.int .u64 n).wf = true) : 0 ≤ n ∧ n < 18446744073709551616 := by
  have h1 : IntKind.u64.min = 0 := by decide
  have h2 : IntKind.u64.max = 18446744073709551615 := by decide
  simp only [Lit.wf, h1, h2, Bool.and_eq_true, decide_eq_true_eq] at h
  omega
theorem wf_i64 {n : Int} (h : (Lit.int .i64 n).wf = true) : -9223372036854775808 ≤ n ∧ n ≤ 9223372036854775807 := by
  have h1 : IntKind.i64.min = -9223372036854775808 := by decide
  have h2 : IntKind.i64.max = 9223372036854775807 := by decide
  simp only [Lit.wf, h1, h2, Bool.and_eq_true, decide_eq_true_eq] at h
  omega

/-- A reading of a slice of bytes tells a row. -/
theorem row_of_trod {H : Type} {enc : TypeId × Value → H} {W : World} {sp : Nat → Bool} {held : Bool} {n base : Nat} {v : Value} {x : DataW H × List MemPlace} (hf : DataW.trod enc Try.prog W base sp held n 36 [v] = some x) (hw : ∀ n ∈ x.1.weights Try.prog 36, n ≤ reachBytes) :
    ∃ l : List Int, RowAt W v l ∧ Byts l ∧ l.length ≤ 140737488351232 := by
  rcases open_ints Try.underlying36 Try.underlying5 Try.cellsOf5 hf with ⟨hcs, _⟩ | ⟨a, len, cap, zs, hcs, _, hl, hm, hz, hx, hcell, hwz⟩
  · simp at hcs
    subst hcs
    exact ⟨[], .inl ⟨rfl, rfl⟩, Byts.nil, by simp⟩
  · simp at hcs
    subst hcs
    unfold maxLen at hm
    have hlz : len ≤ zs.length := by rw [hz]; split <;> omega
    have hbz : Byts zs := fun c hc => wf_u8 (hwz c hc)
    have hb : len ≤ 140737488351232 := by
      have h1 := hw ((zs.take len).length + (zs.drop len).length) (by
        rw [hx]
        simp only [DataW.weights, Try.underlying36]
        simp [lits, Try.bytesOf5])
      rw [List.length_take, reach_is] at h1
      omega
    by_cases h0 : len = 0
    · subst h0
      exact ⟨[], .inr (.inl ⟨a, cap, rfl, rfl⟩), Byts.nil, by simp⟩
    · have hs : a.spot = none := by
        have := hcell 0 (by omega)
        rw [show a.add 0 = a from rfl] at this
        exact World.cell?_spot this
      obtain ⟨b, off, sp⟩ := a
      obtain rfl : sp = none := hs
      have hlen : (zs.take len).length = len := by rw [List.length_take]; omega
      refine ⟨zs.take len, .inr (.inr ⟨b, off, cap, by rw [hlen], by omega, fun i hi => ?_⟩), hbz.take len, by omega⟩
      rw [hlen] at hi
      have := hcell i (by omega)
      rw [add_none'] at this
      rw [this]
      simp [List.getD, hi]
theorem trod_struct4 {H : Type} {enc : TypeId × Value → H} {P : Program} {w : World} {base : Nat} {spare : Nat → Bool} {held : Bool} {t : TypeId} {f0 f1 f2 f3 : Field} {fuel : Nat} {cs : List Value} {x : DataW H × List MemPlace} (ht : P.underlying t = some (.struct #[f0, f1, f2, f3])) (h : DataW.trod enc P w base spare held fuel t cs = some x) :
    ∃ y0 y1 y2 y3 n, x.1 = .agg [y0.1, y1.1, y2.1, y3.1] ∧ cs.length = P.cellsOf t ∧ DataW.trod enc P w base spare held n f0.type ((cs.drop f0.offset).take (P.cellsOf f0.type)) = some y0 ∧
      DataW.trod enc P w base spare held n f1.type ((cs.drop f1.offset).take (P.cellsOf f1.type)) = some y1 ∧ DataW.trod enc P w base spare held n f2.type ((cs.drop f2.offset).take (P.cellsOf f2.type)) = some y2 ∧ DataW.trod enc P w base spare held n f3.type ((cs.drop f3.offset).take (P.cellsOf f3.type)) = some y3 := by
  obtain ⟨xs, n, _, rfl, hl, hlen, hf⟩ := DataW.trod_struct ht h
  match xs, hlen with
  | [y0, y1, y2, y3], _ => exact ⟨y0, y1, y2, y3, n, by simp, hl, by simpa using hf 0 f0 rfl, by simpa using hf 1 f1 rfl, by simpa using hf 2 f2 rfl, by simpa using hf 3 f3 rfl⟩
theorem list4 (cs : List Value) (h : cs.length = 4) : ∃ a b c d, cs = [a, b, c, d] := by
  match cs, h with
  | [a, b, c, d], _ => exact ⟨a, b, c, d, rfl⟩
/-- A reading of a call tells its cells. -/
theorem op_of_trod {H : Type} {enc : TypeId × Value → H} {W : World} {sp : Nat → Bool} {held : Bool} {n base : Nat} {cs : List Value} {x : DataW H × List MemPlace} (hf : DataW.trod enc Try.prog W base sp held n 43 cs = some x) (hw : ∀ n ∈ x.1.weights Try.prog 43, n ≤ reachBytes) :
    ∃ q : Int × Nat × Int × Value × List Int, cs = [.int .i64 q.1, .int .u64 (q.2.1 : Int), .int .i64 q.2.2.1, q.2.2.2.1] ∧ RowAt W q.2.2.2.1 q.2.2.2.2 ∧ Byts q.2.2.2.2 ∧ q.2.1 < 18446744073709551616 ∧ q.2.2.2.2.length ≤ 140737488351232 ∧ -9223372036854775808 ≤ q.2.2.1 ∧ q.2.2.1 ≤ 9223372036854775807 := by
  obtain ⟨y0, y1, y2, y3, k, hx, hl, h0, h1, h2, h3⟩ := trod_struct4 Try.underlying43 hf
  rw [Try.cellsOf43] at hl
  obtain ⟨a, b, c, d, rfl⟩ := list4 cs hl
  simp only [Try.cellsOf3, Try.cellsOf41, Try.cellsOf36, List.drop_zero, List.take_succ_cons, List.take_zero, List.drop_succ_cons] at h0 h1 h2 h3
  obtain ⟨n0, e0, _⟩ := DataW.trod_int Try.underlying3 h0
  obtain ⟨n1, e1, w1⟩ := DataW.trod_int Try.underlying41 h1
  obtain ⟨n2, e2, w2⟩ := DataW.trod_int Try.underlying3 h2
  obtain ⟨l, r1, r2, r3⟩ := row_of_trod h3 (fun n hn => hw n (by
    rw [hx]
    simp only [DataW.weights, Try.underlying43]
    exact DataW.weights_mem_each (j := 3) (t := 36) rfl rfl n hn))
  simp at e0 e1 e2
  have w1' := wf_u64 w1.2
  have w2' := wf_i64 w2.2
  exact ⟨(n0, n1.toNat, n2, d, l), by rw [e0, e1, e2, Int.toNat_of_nonneg w1'.1], r1, r2, by simp only; omega, r3, w2'.1, w2'.2⟩
/-- A reading of a script. -/
theorem script_of_trod {H : Type} {enc : TypeId × Value → H} {W : World} {sp : Nat → Bool} {held : Bool} {fuel base : Nat} {v : Value} {x : DataW H × List MemPlace} (hf : DataW.trod enc Try.prog W base sp held fuel 30 [v] = some x) (hw : ∀ n ∈ x.1.weights Try.prog 30, n ≤ reachBytes) :
    ∃ (m : Nat) (K : Nat → Int) (X : Nat → Nat) (N : Nat → Int) (V : Nat → Value) (rows : Nat → List Int), ScriptAt W v m K X N V rows ∧ m ≤ 4398046511104 := by
  rcases open_slice Try.underlying30 hf with ⟨hcs, _⟩ | ⟨a, len, cap, m, n, D, Pl, hcs, _, hl, hm, hz, hx, hcell⟩
  · simp at hcs
    subst hcs
    exact ⟨0, fun _ => 0, fun _ => 0, fun _ => 0, fun _ => .slice none 0 0, fun _ => [], ⟨.inl ⟨none, 0, rfl, rfl⟩, fun i hi => by omega, fun i hi => by omega, fun i hi => by omega, fun i hi => by omega, fun i hi => by omega⟩, by omega⟩
  · simp at hcs
    subst hcs
    have hlz : len ≤ m := by rw [hz]; split <;> omega
    have hb : len ≤ 4398046511104 := by
      have h1 := hw ((((List.range len).map D).length + ((List.range (m - len)).map fun j => D (len + j)).length) * 48) (by
        rw [hx]
        simp only [DataW.weights, Try.underlying30]
        simp [Try.bytesOf43])
      rw [reach_is] at h1
      simp only [List.length_map, List.length_range] at h1
      omega
    have hwD : ∀ i, i < len → ∀ n ∈ (D i).weights Try.prog 43, n ≤ reachBytes := fun i hi n hn => hw n (by
      rw [hx]
      simp only [DataW.weights, Try.underlying30]
      refine List.mem_cons_of_mem _ (List.mem_append_left _ (mem_weightsAll (d := D i) ?_ n hn))
      exact List.mem_map.2 ⟨i, List.mem_range.2 hi, rfl⟩)
    have each : ∀ i, i < len → ∃ q : Int × Nat × Int × Value × List Int, (W.cell? (a.add (i * 4)) = some (.int .i64 q.1) ∧ W.cell? ((a.add (i * 4)).add 1) = some (.int .u64 (q.2.1 : Int)) ∧ W.cell? ((a.add (i * 4)).add 2) = some (.int .i64 q.2.2.1) ∧ W.cell? ((a.add (i * 4)).add 3) = some q.2.2.2.1) ∧ RowAt W q.2.2.2.1 q.2.2.2.2 ∧ Byts q.2.2.2.2 ∧ q.2.1 < 18446744073709551616 ∧ q.2.2.2.2.length ≤ 140737488351232 ∧ -9223372036854775808 ≤ q.2.2.1 ∧ q.2.2.1 ≤ 9223372036854775807 := by
      intro i hi
      obtain ⟨cs', h1, h2⟩ := hcell i (by omega)
      rw [Try.cellsOf43] at h1
      obtain ⟨_, hlen, hce⟩ := World.cells?_some h1
      obtain ⟨q, rfl, h3⟩ := op_of_trod h2 (hwD i hi)
      exact ⟨q, ⟨hce 0 (by omega), hce 1 (by omega), hce 2 (by omega), hce 3 (by omega)⟩, h3⟩
    obtain ⟨q, hq⟩ := Go.Deep.choose_lt each
    refine ⟨len, fun i => (q i).1, fun i => (q i).2.1, fun i => (q i).2.2.1, fun i => (q i).2.2.2.1, fun i => (q i).2.2.2.2, ⟨?_, fun i hi => (hq i hi).2.1, fun i hi => (hq i hi).2.2.1, fun i hi => (hq i hi).2.2.2.1, fun i hi => (hq i hi).2.2.2.2.1, fun i hi => (hq i hi).2.2.2.2.2⟩, hb⟩
    by_cases h0 : len = 0
    · subst h0
      exact .inl ⟨_, _, rfl, rfl⟩
    · have hs : a.spot = none := by
        have := (hq 0 (by omega)).1.1
        rw [Nat.zero_mul, show a.add 0 = a from rfl] at this
        exact World.cell?_spot this
      obtain ⟨b, off, sp⟩ := a
      obtain rfl : sp = none := hs
      refine .inr ⟨b, off, cap, rfl, fun i hi => ?_⟩
      have h := (hq i hi).1
      simp only [add_none'] at h
      intro j y hy
      match j, hy with
      | 0, hy => simp at hy; subst hy; exact h.1
      | 1, hy => simp at hy; subst hy; exact h.2.1
      | 2, hy => simp at hy; subst hy; exact h.2.2.1
      | 3, hy => simp at hy; subst hy; exact h.2.2.2
end Go.Proofs.Ytanmbbckkfkhpaa
