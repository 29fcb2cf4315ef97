import Derived.Test.YtjklmkeedhgncaaA24
import Derived.Test.YtjklmkeedhgncaaA10
namespace Go.Proofs.Ytjklmkeedhgncaa
open Go.ChangeShapes Go.WideShapes Go.ChangeAt Go.RowKit Go.Deep
set_option linter.unusedSimpArgs false
set_option linter.unusedVariables false
theorem Try.cellsOf69 : Try.prog.cellsOf 69 = 5 := by kernel_rfl
theorem Try.cellsOf31 : Try.prog.cellsOf 31 = 2 := by kernel_rfl
theorem Try.cellsOf29 : Try.prog.cellsOf 29 = 1 := by kernel_rfl
theorem trod_struct2 {H : Type} {enc : TypeId × Value → H} {P : Program} {w : World} {base : Nat} {spare : Nat → Bool} {held : Bool} {t : TypeId} {f0 f1 : Field} {fuel : Nat} {cs : List Value} {x : DataW H × List MemPlace} (ht : P.underlying t = some (.struct #[f0, f1])) (h : DataW.trod enc P w base spare held fuel t cs = some x) :
  ∃ y0 y1 n, x.1 = .agg [y0.1, y1.1] ∧ cs.length = P.cellsOf t ∧ DataW.trod enc P w base spare held n f0.type ((cs.drop f0.offset).take (P.cellsOf f0.type)) = some y0 ∧
   DataW.trod enc P w base spare held n f1.type ((cs.drop f1.offset).take (P.cellsOf f1.type)) = some y1 := by
 obtain ⟨xs, n, _, rfl, hl, hlen, hf⟩ := DataW.trod_struct ht h
 match xs, hlen with
 | [y0, y1], _ => exact ⟨y0, y1, n, by simp, hl, by simpa using hf 0 f0 rfl, by simpa using hf 1 f1 rfl⟩
theorem trod_struct4 {H : Type} {enc : TypeId × Value → H} {P : Program} {w : World} {base : Nat} {spare : Nat → Bool} {held : Bool} {t : TypeId} {f0 f1 f2 f3 : Field} {fuel : Nat} {cs : List Value} {x : DataW H × List MemPlace} (ht : P.underlying t = some (.struct #[f0, f1, f2, f3])) (h : DataW.trod enc P w base spare held fuel t cs = some x) :
  ∃ y0 y1 y2 y3 n, x.1 = .agg [y0.1, y1.1, y2.1, y3.1] ∧ cs.length = P.cellsOf t ∧ DataW.trod enc P w base spare held n f0.type ((cs.drop f0.offset).take (P.cellsOf f0.type)) = some y0 ∧
   DataW.trod enc P w base spare held n f1.type ((cs.drop f1.offset).take (P.cellsOf f1.type)) = some y1 ∧ DataW.trod enc P w base spare held n f2.type ((cs.drop f2.offset).take (P.cellsOf f2.type)) = some y2 ∧
   DataW.trod enc P w base spare held n f3.type ((cs.drop f3.offset).take (P.cellsOf f3.type)) = some y3 := by
 obtain ⟨xs, n, _, rfl, hl, hlen, hf⟩ := DataW.trod_struct ht h
 match xs, hlen with
 | [y0, y1, y2, y3], _ => exact ⟨y0, y1, y2, y3, n, by simp, hl, by simpa using hf 0 f0 rfl, by simpa using hf 1 f1 rfl, by simpa using hf 2 f2 rfl, by simpa using hf 3 f3 rfl⟩
theorem path_of_trod {H : Type} {enc : TypeId × Value → H} {W : World} {sp : Nat → Bool} {held : Bool} {n base : Nat} {v : Value} {x : DataW H × List MemPlace} (hf : DataW.trod enc Try.prog W base sp held n 67 [v] = some x) :
  ∃ ps : List Hs, HPa W.heap.size W v ps ∧ ps.length ≤ Rows.uptoBulk x.1 := by
 obtain ⟨L, hL, hx⟩ := hrow_of_trod hf
 rcases hL with ⟨a, c, h1, h2, _⟩ | ⟨b, off, cap, h1, h2, h3⟩
 ·exact ⟨L, .inl ⟨a, c, h1, h2⟩, by rw [h2]; simp⟩
 ·by_cases h0 : L = []
  ·subst h0
   exact ⟨[], .inl ⟨_, _, h1, rfl⟩, by simp⟩
  ·have hp : 0 < L.length := List.length_pos_iff.mpr h0
   refine ⟨L, .inr ⟨b, off, cap, h1, h2, ?_, h3⟩, ?_⟩
   ·have hl : 0 < (flatH L).length := by rw [flatH_len]; omega
    have h4 := h3 0 ((flatH L)[0]) (List.getElem?_eq_getElem hl)
    exact cell_lt h4
   ·rcases hx with hx | ⟨D, rest, hx⟩
    ·exact absurd hx h0
    ·rw [hx]
     simp only [Rows.uptoBulk]
     have := bulk_all ((List.range L.length).map D)
     simp only [List.length_map, List.length_range] at this
     omega
set_option maxRecDepth 8000 in
theorem leaf_of_trod {H : Type} {enc : TypeId × Value → H} {W : World} {sp : Nat → Bool} {held : Bool} {n base : Nat} {cs : List Value} {x : DataW H × List MemPlace} (hf : DataW.trod enc Try.prog W base sp held n 69 cs = some x) :
  ∃ y : LV, cs = (lvA y).toList ∧ LfAt W.heap.size W y ∧ Byts y.c.l ∧ (-9223372036854775808 ≤ y.num ∧ y.num ≤ 9223372036854775807) ∧ (-9223372036854775808 ≤ y.c.k ∧ y.c.k ≤ 9223372036854775807) ∧ y.c.s.size + y.c.l.length ≤ Rows.uptoBulk x.1 ∧ y.ps.length ≤ Rows.uptoBulk x.1 := by
 obtain ⟨y0, y1, y2, k, hx, hl, h0, h1, h2⟩ := trod_struct3 Try.underlying69 hf
 rw [Try.cellsOf69] at hl
 match cs, hl with
 | [a, b, c, d, e], _ =>
  simp only [Try.cellsOf3, Try.cellsOf40, Try.cellsOf67, List.drop_zero, List.take_succ_cons, List.take_zero, List.drop_succ_cons] at h0 h1 h2
  obtain ⟨n0, e0, w0⟩ := DataW.trod_int Try.underlying3 h0
  obtain ⟨z, e1, r1, r2, r3, r4⟩ := cell_of_trod h1
  obtain ⟨ps, p1, p2⟩ := path_of_trod h2
  simp at e0
  simp only [cvL] at e1
  injection e1 with b1 e1
  injection e1 with b2 e1
  injection e1 with b3 e1
  refine ⟨⟨n0, z, e, ps⟩, by rw [e0, b1, b2, b3]; rfl, ⟨r1, fun h => row_lt r1 h, p1⟩, r2, wf_i64 w0.2, r3, ?_, ?_⟩
  ·rw [hx]
   simp only [Rows.uptoBulk, Rows.uptoBulkAll]
   show z.s.size + z.l.length ≤ _
   omega
  ·rw [hx]
   simp only [Rows.uptoBulk, Rows.uptoBulkAll]
   show ps.length ≤ _
   omega
set_option maxRecDepth 8000 in
theorem leaves_of_trod {H : Type} {enc : TypeId × Value → H} {W : World} {sp : Nat → Bool} {held : Bool} {n base : Nat} {v : Value} {x : DataW H × List MemPlace} (hf : DataW.trod enc Try.prog W base sp held n 29 [v] = some x) :
  ∃ ls : List LV, LsV W.heap.size W v ls ∧ ∀ y ∈ ls, Byts y.c.l ∧ (-9223372036854775808 ≤ y.num ∧ y.num ≤ 9223372036854775807) ∧ (-9223372036854775808 ≤ y.c.k ∧ y.c.k ≤ 9223372036854775807) ∧ y.c.s.size + y.c.l.length ≤ Rows.uptoBulk x.1 ∧ y.ps.length ≤ Rows.uptoBulk x.1 := by
 rcases open_slice Try.underlying29 hf with ⟨hcs, _⟩ | ⟨a, len, cap, m, n, D, Pl, hcs, _, hl, hm, hz, hx, hcell⟩
 ·simp at hcs
  subst hcs
  exact ⟨[], .inl ⟨none, 0, rfl, rfl⟩, fun c hc => by simp at hc⟩
 ·simp at hcs
  subst hcs
  have hlz : len ≤ m := by rw [hz]; split <;> omega
  by_cases h0 : len = 0
  ·subst h0
   exact ⟨[], .inl ⟨some a, cap, rfl, rfl⟩, fun c hc => by simp at hc⟩
  ·have each : ∀ i, i < len → ∃ y : LV, (∀ j u, (lvA y).toList[j]? = some u → W.cell? ((a.add (i * 5)).add j) = some u) ∧ LfAt W.heap.size W y ∧ Byts y.c.l ∧ (-9223372036854775808 ≤ y.num ∧ y.num ≤ 9223372036854775807) ∧ (-9223372036854775808 ≤ y.c.k ∧ y.c.k ≤ 9223372036854775807) ∧ y.c.s.size + y.c.l.length ≤ Rows.uptoBulk (D i) ∧ y.ps.length ≤ Rows.uptoBulk (D i) := by
    intro i hi
    obtain ⟨cs', h1, h2⟩ := hcell i (by omega)
    rw [Try.cellsOf69] at h1
    obtain ⟨_, hlen, hce⟩ := World.cells?_some h1
    obtain ⟨y, e, r⟩ := leaf_of_trod h2
    refine ⟨y, fun j u hu => ?_, r⟩
    rw [← e] at hu
    have hj := (List.getElem?_eq_some_iff.1 hu).1
    rw [hce j (by omega)]; exact hu
   haveI : Inhabited LV := ⟨⟨0, ⟨0, ByteArray.empty, .nilFunc, []⟩, .nilFunc, []⟩⟩
   obtain ⟨f, hfc⟩ := Go.Deep.choose_lt each
   have hs : a.spot = none := by
    have := (hfc 0 (by omega)).1 0 (.int .i64 (f 0).num) rfl
    rw [Nat.zero_mul, show (a.add 0).add 0 = a from rfl] at this
    exact World.cell?_spot this
   obtain ⟨b, off, sp⟩ := a
   obtain rfl : sp = none := hs
   have hb0 : b < W.heap.size := by
    have := (hfc 0 (by omega)).1 0 (.int .i64 (f 0).num) rfl
    rw [Addr.add_mid, Addr.add_mid] at this
    exact cell_lt this
   have hbk : ∀ i, i < len → Rows.uptoBulk (D i) ≤ Rows.uptoBulk x.1 := fun i hi => by
    rw [hx]
    simp only [Rows.uptoBulk]
    have := bulk_mem (d := D i) (l := (List.range len).map D) (List.mem_map.2 ⟨i, List.mem_range.2 hi, rfl⟩)
    omega
   refine ⟨(List.range len).map f, .inr ⟨b, off, cap, by simp, by simpa using hl, hb0, fun i c hc => ?_, fun c hc => ?_⟩, fun c hc => ?_⟩
   ·have hi : i < len := by have := (List.getElem?_eq_some_iff.1 hc).1; simpa using this
    have e : f i = c := by simpa [hi] using hc
    subst e
    intro j u hu
    have h1 := (hfc i hi).1 j u hu
    rw [Addr.add_mid, Addr.add_mid] at h1
    exact h1
   ·obtain ⟨i, hi, rfl⟩ := List.mem_map.1 hc
    exact (hfc i (List.mem_range.1 hi)).2.1
   ·obtain ⟨i, hi, rfl⟩ := List.mem_map.1 hc
    have hi := List.mem_range.1 hi
    obtain ⟨_, _, r2, r3, r4, r5, r6⟩ := hfc i hi
    have := hbk i hi
    exact ⟨r2, r3, r4, by omega, by omega⟩

theorem Try.cellsOf23 : Try.prog.cellsOf 23 = 1 := by kernel_rfl
theorem Try.cellsOf46 : Try.prog.cellsOf 46 = 5 := by kernel_rfl
structure AkV where
 v : Value
 L : List CV
 kind : Int
 key : ByteArray
 n : Int
 u : Value
 ls : List LV
set_option maxRecDepth 8000 in
theorem asked_of_trod {H : Type} {enc : TypeId × Value → H} {W : World} {sp : Nat → Bool} {held : Bool} {n base : Nat} {cs : List Value} {x : DataW H × List MemPlace} (hf : DataW.trod enc Try.prog W base sp held n 46 cs = some x) :
  ∃ G : AkV, cs = [G.v, .int .i64 G.kind, .string G.key, .int .i64 G.n, G.u] ∧ (CsV W.heap.size W G.v G.L ∧ LsV W.heap.size W G.u G.ls) ∧ (-9223372036854775808 ≤ G.n ∧ G.n ≤ 9223372036854775807) ∧ (-9223372036854775808 ≤ G.kind ∧ G.kind ≤ 9223372036854775807) ∧ (G.L.length ≤ Rows.uptoBulk x.1 ∧ ∀ c ∈ G.L, Byts c.l ∧ (-9223372036854775808 ≤ c.k ∧ c.k ≤ 9223372036854775807) ∧ c.s.size + c.l.length ≤ Rows.uptoBulk x.1) ∧ ∀ y ∈ G.ls, Byts y.c.l ∧ (-9223372036854775808 ≤ y.num ∧ y.num ≤ 9223372036854775807) ∧ (-9223372036854775808 ≤ y.c.k ∧ y.c.k ≤ 9223372036854775807) ∧ y.c.s.size + y.c.l.length ≤ Rows.uptoBulk x.1 ∧ y.ps.length ≤ Rows.uptoBulk x.1 := by
 obtain ⟨y0, y1, y2, y3, k, hx, hl, h0, h1, h2, h3⟩ := trod_struct4 Try.underlying46 hf
 rw [Try.cellsOf46] at hl
 match cs, hl with
 | [a0, a1, a2, a3, a4], _ =>
  simp only [Try.cellsOf3, Try.cellsOf23, Try.cellsOf9, Try.cellsOf31, List.drop_zero, List.take_succ_cons, List.take_zero, List.drop_succ_cons] at h0 h1 h2 h3
  obtain ⟨L, p1, p2, p3⟩ := cells_of_trod h0
  obtain ⟨kind, e1, w1⟩ := DataW.trod_int Try.underlying3 h1
  obtain ⟨key, e2, _, _⟩ := DataW.trod_string Try.underlying9 h2
  obtain ⟨z0, z1, k', hx3, _, g0, g1⟩ := trod_struct2 Try.underlying31 h3
  simp only [Try.cellsOf3, Try.cellsOf29, List.drop_zero, List.take_succ_cons, List.take_zero, List.drop_succ_cons] at g0 g1
  obtain ⟨m, e4, w4⟩ := DataW.trod_int Try.underlying3 g0
  obtain ⟨ls, q1, q2⟩ := leaves_of_trod g1
  simp at e1 e2 e4
  subst e1 e2 e4
  have hb0 : Rows.uptoBulk y0.1 ≤ Rows.uptoBulk x.1 := by rw [hx]; simp only [Rows.uptoBulk, Rows.uptoBulkAll]; omega
  have hb3 : Rows.uptoBulk y3.1 ≤ Rows.uptoBulk x.1 := by rw [hx]; simp only [Rows.uptoBulk, Rows.uptoBulkAll]; omega
  have hb4 : Rows.uptoBulk z1.1 ≤ Rows.uptoBulk y3.1 := by rw [hx3]; simp only [Rows.uptoBulk, Rows.uptoBulkAll]; omega
  refine ⟨⟨a0, L, kind, key, m, a4, ls⟩, rfl, ⟨p1, q1⟩, wf_i64 w4.2, wf_i64 w1.2, ⟨by show L.length ≤ _; omega, fun c hc => ?_⟩, fun y hy => ?_⟩
  ·obtain ⟨r1, r2, r3⟩ := p3 c hc
   exact ⟨r1, r2, by omega⟩
  ·obtain ⟨r2, r3, r4, r5, r6⟩ := q2 y hy
   exact ⟨r2, r3, r4, by omega, by omega⟩

end Go.Proofs.Ytjklmkeedhgncaa
