import Derived.Test.YtbbhjgflaiacaaaFolB
namespace Go.Proofs.Ytbbhjgflaiacaaa
open Go.RowKit Go.Sort

theorem write_rowG (g : Nat) (d : Dg) (v : Value) (l : List Int) (w0 w : World) (hb : Below w0.heap.size w0 w) (hg0 : w0.heap.size ≤ g) (hrow : RowAt w0 v l) (hg : Blk w g 66 (digA d.s d.r d.n))
    (hlen : (d.n : Int) + l.length ≤ 1152921504606846976) :
    Calls Try.prog 37 #[ptr g, v] w fun e w' => e = .returned (.tuple #[]) ∧ Blk w' g 66 (digA (absorbL d l).s (absorbL d l).r (absorbL d l).n) ∧ w.grownBy w' (some g) := by
  rcases hrow with ⟨rfl, rfl⟩ | ⟨a, c, rfl, rfl⟩ | ⟨h, off, cap, rfl, hcap, hx⟩
  · refine (write_none g none 0 w).mono ?_
    rintro e w' ⟨rfl, rfl⟩
    exact ⟨rfl, hg, grownBy_refl _ _⟩
  · refine (write_none g (some a) c w).mono ?_
    rintro e w' ⟨rfl, rfl⟩
    exact ⟨rfl, hg, grownBy_refl _ _⟩
  · by_cases h0 : l.length = 0
    · obtain rfl := List.eq_nil_of_length_eq_zero h0
      refine (write_none g (some ⟨h, off, none⟩) cap w).mono ?_
      rintro e w' ⟨rfl, rfl⟩
      exact ⟨rfl, hg, grownBy_refl _ _⟩
    · have hlt := cell_lt (hx 0 (by omega))
      refine (write_any g d (fun i => l.getD i 0) l.length cap h off w hg (by omega) (fun i hi => by rw [hb.cell (p := ⟨h, off + i, none⟩) hlt]; exact hx i hi) hlen hcap).mono ?_
      rintro e w' ⟨rfl, h1, h2⟩
      rw [absorbN_all] at h1
      exact ⟨rfl, h1, h2⟩

/-- Two digests and a hash of the call's own, beside what was there in w5. -/
structure FSt (w5 : World) (g p10 gc : Nat) (CF : Array Value) (d c : Dg) (w' : World) : Prop where
  bel : Below w5.heap.size w5 w'
  f : Blk w' p10 23 CF
  d : Blk w' g 66 (digA d.s d.r d.n)
  c : Blk w' gc 66 (digA c.s c.r c.n)
theorem FSt.next {w5 : World} {g p10 gc : Nat} {CF : Array Value} {d c : Dg} {w' w'' : World} (h : FSt w5 g p10 gc CF d c w') (hb : Below w'.heap.size w' w'') : FSt w5 g p10 gc CF d c w'' where
  bel := h.bel.trans (hb.mono h.bel.size)
  f := h.f.below hb h.f.lt
  d := h.d.below hb h.d.lt
  c := h.c.below hb h.c.lt
theorem Blk.grownBy {w w' : World} {b k : Nat} {T : TypeId} {cs : Array Value} (h : Blk w b T cs) (hg : w.grownBy w' (some k)) (hne : b ≠ k) : Blk w' b T cs := by
  unfold Blk at *
  rw [hg.block b (Array.getElem?_eq_some_iff.1 h).1 (fun e => hne (Option.some.inj e))]; exact h
theorem FSt.setD {w5 : World} {g p10 gc : Nat} {CF : Array Value} {d d' c : Dg} {w' w'' : World} (h : FSt w5 g p10 gc CF d c w') (hb : w'.grownBy w'' (some g)) (hd : Blk w'' g 66 (digA d'.s d'.r d'.n)) (h0 : w5.heap.size ≤ g) (h1 : p10 ≠ g) (h2 : gc ≠ g) : FSt w5 g p10 gc CF d' c w'' where
  bel := h.bel.grown hb (by have := h.bel.size; omega) (fun k e => by injection e with e; omega)
  f := h.f.grownBy hb h1
  d := hd
  c := h.c.grownBy hb h2
theorem FSt.setC {w5 : World} {g p10 gc : Nat} {CF : Array Value} {d c c' : Dg} {w' w'' : World} (h : FSt w5 g p10 gc CF d c w') (hb : w'.grownBy w'' (some gc)) (hd : Blk w'' gc 66 (digA c'.s c'.r c'.n)) (h0 : w5.heap.size ≤ gc) (h1 : p10 ≠ gc) (h2 : g ≠ gc) : FSt w5 g p10 gc CF d c' w'' where
  bel := h.bel.grown hb (by have := h.bel.size; omega) (fun k e => by injection e with e; omega)
  f := h.f.grownBy hb h1
  d := h.d.grownBy hb h2
  c := hd
theorem FSt.range {w5 : World} {g p10 gc : Nat} {CF : List Value} {d c : Dg} {w' : World} (h : FSt w5 g p10 gc CF.toArray d c w') : w'.rangeAt p10 0 CF := fun j v hv => by
  rw [Nat.zero_add, h.f.cell, List.getElem?_toArray]; exact hv
theorem blk_rangeL {w : World} {b : Nat} {T : TypeId} {C : List Value} (h : Blk w b T C.toArray) : w.rangeAt b 0 C := fun j v hv => by
  rw [Nat.zero_add, h.cell, List.getElem?_toArray]; exact hv
theorem of_anyH (v : Value) (l : List Int) (w : World) (hrow : RowAt w v l) (hlen : (l.length : Int) ≤ 576460752303423488) : Calls Try.prog 11 #[v] w fun e w' => e = .returned (.agg (encH (shaH l)).toArray) ∧ Below w.heap.size w w' := by
  rw [← shaH_arr]; exact of_any v l w hrow hlen
theorem sum_H (g : Nat) (d : Dg) (l : List Int) (w : World) (hg : Blk w g 66 (digA d.s d.r d.n)) (hd : d = absorbL dg0 l) (hn : l.length ≤ 2147483647) :
    Calls Try.prog 20 #[ptr g] w fun e w' => e = .returned (.agg (encH (shaH l)).toArray) ∧ Below w.heap.size w w' := by
  subst hd
  rw [← shaH_arr]; exact sum_sha g l w hg hn
theorem ofAll_H (v : Value) (m : Nat) (V : Nat → Value) (rows : Nat → List Int) (l : List Int) (w : World) (hr : RowsAt w v m V rows) (hm : (m : Int) ≤ 9223372036854775807) (hl : concat rows m = l) (hlen : l.length ≤ 140737488351232) :
    Calls Try.prog 13 #[v] w fun e w' => e = .returned (.agg (encH (shaH l)).toArray) ∧ Below w.heap.size w w' := by
  subst hl
  rw [← shaH_arr]; exact ofAll_rows v m V rows w hr hm hlen
/-- Two rows in a literal. -/
theorem rows_two {w : World} {va vb : Value} {la lb : List Int} (ha : RowAt w va la) (hb : RowAt w vb lb) :
    RowsAt (w.alloc (.cells #[va, vb] 28)) (.slice (some ⟨w.heap.size, 0, none⟩) 2 2) 2 (fun i => if i = 0 then va else vb) (fun i => if i = 0 then la else lb) where
  form := .inr ⟨w.heap.size, 0, 2, rfl, fun i hi => by
    rw [Nat.zero_add, (Blk.new w 28 _).cell]
    match i, hi with
    | 0, _ => rfl
    | 1, _ => rfl⟩
  row i hi := by
    match i, hi with
    | 0, _ => exact ha.below (below_new w _)
    | 1, _ => exact hb.below (below_new w _)
theorem concat_two (la lb : List Int) : (concat (fun i => if i = 0 then la else lb) 2) = la ++ lb := by simp [concat]
theorem bv_append (a b : List Int) : bv (a ++ b) = bv a ++ bv b := by simp [bv]
theorem Try.bsRows (pa pb : Option Addr) (na ca nb cb : Nat) (w : World) : (Instr.buildSlice 25 2 #[(0, .slice pa na ca), (1, .slice pb nb cb)]).run Try.prog w = .ok (.slice (some ⟨w.heap.size, 0, none⟩) 2 2) (w.alloc (.cells #[.slice pa na ca, .slice pb nb cb] 28)) := by kernel_rfl
theorem Try.bs2 (c d : Nat → Int) (w : World) : (Instr.buildSlice 45 2 #[(0, .agg (bytesA 32 c)), (1, .agg (bytesA 32 d))]).run Try.prog w = .ok (.slice (some ⟨w.heap.size, 0, none⟩) 2 2) (w.alloc (.cells (bytesA 32 c ++ bytesA 32 d) 23)) := by kernel_rfl
/-- A literal, in a region that draws. -/
theorem wp_bs {P : Program} {o : Oper} {a : Act} {w : World} {K : Act → World → Prop} {Q : Exit → Act → World → Prop} (t : TypeId) (n : Nat) (parts : Array (Nat × Operand)) (ho : o.op = .buildSlice t n parts)
    (vs : Array (Nat × Value)) (hv : (parts.map fun (i, x) => (i, a.eval x)) = vs) (v : Value) (w' : World) (hrun : (Instr.buildSlice t n vs).run P w = .ok v w') (h : K (a.put o.dst v) w') : o.wp P a w K Q := by
  unfold Oper.wp execOp
  simp only [ho, hv, Sem.run_bind, hrun, Result.andThen_ok]
  exact h
theorem Try.enter13 (w : World) (vs : Array Value) : (callFunc 13 vs).run Try.prog w = .ok (.enter 13 vs) w := by kernel_rfl
theorem Try.enter11 (w : World) (vs : Array Value) : (callFunc 11 vs).run Try.prog w = .ok (.enter 11 vs) w := by kernel_rfl
theorem Try.enter20 (w : World) (vs : Array Value) : (callFunc 20 vs).run Try.prog w = .ok (.enter 20 vs) w := by kernel_rfl
theorem Try.enter21 (w : World) (vs : Array Value) : (callFunc 21 vs).run Try.prog w = .ok (.enter 21 vs) w := by kernel_rfl
theorem bs2H (x y : Hs) (w : World) : (Instr.buildSlice 45 2 #[(0, .agg (encH x).toArray), (1, .agg (encH y).toArray)]).run Try.prog w = .ok (.slice (some ⟨w.heap.size, 0, none⟩) 2 2) (w.alloc (.cells (flatH [x, y]).toArray 23)) := by
  have e : (flatH [x, y]).toArray = bytesA 32 x.f ++ bytesA 32 y.f := by
    rw [flatH_cons, flatH_cons, flatH_nil, List.append_nil, ← encH_arr, ← encH_arr, List.append_toArray]
  rw [e, encH_arr, encH_arr]
  exact Try.bs2 x.f y.f w
theorem owns_two (x y : Hs) (w : World) : (w.alloc (.cells (flatH [x, y]).toArray 23)).ownsRow w.heap.size 23 32 (.slice (some ⟨w.heap.size, 0, none⟩) 2 2) [x, y].length (flatH [x, y]) := by
  have h1 : (flatH [x, y]).length = 2 * 32 := flatH_len [x, y]
  show _ ∧ _
  generalize flatH [x, y] = F at *
  refine ⟨h1, .inr ⟨w.heap.size, 2, F.toArray, rfl, Nat.le_refl _, heap_alloc_new w _, Nat.le_refl _, by unfold maxLen; omega, by rw [List.size_toArray, h1], ?_⟩⟩
  show F.take (2 * 32) = F
  exact List.take_of_length_le (by omega)
end Go.Proofs.Ytbbhjgflaiacaaa
