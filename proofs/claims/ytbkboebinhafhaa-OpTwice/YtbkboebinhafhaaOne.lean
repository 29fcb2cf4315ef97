import Derived.Test.YtbkboebinhafhaaInE
namespace Go.Proofs.Ytbkboebinhafhaa
open Go.RowKit

theorem wp_val {P : Program} {Q : Exit → Act → World → Prop} {o : Oper} {a : Act} {w : World} {K : Act → World → Prop} (v : Value) (hrun : (execOp a.eval o).run P w = .ok (.value v) w) (h : K (a.put o.dst v) w) : o.wp P a w K Q := by
  unfold Oper.wp
  rw [hrun]
  exact h
theorem Try.enter20 (w : World) (vs : Array Value) : (callFunc 20 vs).run Try.prog w = .ok (.enter 20 vs) w := by kernel_rfl
theorem Try.enter29 (w : World) (vs : Array Value) : (callFunc 29 vs).run Try.prog w = .ok (.enter 29 vs) w := by kernel_rfl
theorem Try.elem36 : Try.prog.elem 36 = 5 := by kernel_rfl
theorem Try.sizeOf5 (w : World) : (sizeOf 5).run Try.prog w = .ok 1 w := by kernel_rfl
theorem yieldsIf_slice {P : Program} {ops : Array Oper} {S : World → Prop} {op : Oper} {a : Act} (hw : Region.wanted op (yielded ops a.tmps) = true) (t : TypeId) (x hi : Operand) (ho : op.op = .slice t x none (some hi) none)
    (vx vh vs : Value) (hx : a.eval x = vx) (hh : a.eval hi = vh) (hr : ∀ w : World, (Instr.sliceAt t vx none (some vh) none).run P w = .ok vs w) : YieldsIf P ops S op vs a :=
  .inl ⟨hw, fun w _ => by
    unfold execOp
    simp only [ho, hx, hh, Option.map_some, Option.map_none, Sem.run_bind, hr w, Result.andThen_ok, Sem.run_pure]⟩
theorem sl_run (base : Option Addr) (n cap a : Nat) (ha : a ≤ cap) (wx : World) : (Instr.sliceAt 36 (.slice base n cap) none (some (.int .i64 (a : Int))) none).run Try.prog wx = .ok (.slice base a cap) wx := by
  have hu : Try.prog.underlying 36 = some (.slice (Try.prog.elem 36)) := by rw [Try.elem36]; exact Try.underlying36
  have h1 := run_slice_h (P := Try.prog) (w := wx) 36 base n cap hu .i64 (a : Int) (by omega) (by omega)
  have h2 := run_sliceAt_slice (P := Try.prog) (w := wx) 36 (.slice base n cap) none (some (.int .i64 (a : Int))) none hu
  rw [Try.elem36] at h1
  have h3 : sliced base 0 (a : Int).toNat cap 1 = .slice base a cap := by
    have h4 : (if cap = 0 then base else base.map (·.add (0 * 1))) = base := by
      split
      · rfl
      · cases base <;> rfl
    unfold sliced
    rw [h4, Int.toNat_natCast, Nat.sub_zero, Nat.sub_zero]
  rw [h2, h1]
  refine (congrArg (fun z => Result.andThen z fun s w => Result.ok (sliced base 0 (a : Int).toNat cap s) w) (Try.sizeOf5 wx)).trans ?_
  show Result.ok (sliced base 0 (a : Int).toNat cap 1) wx = _
  rw [h3]
/-- The head of a row. -/
theorem sub_any (vb : Value) (lb : List Int) (w : World) (hr : RowAt w vb lb) (a : Nat) (ha : a ≤ lb.length) :
    ∃ vs, (∀ wx : World, (Instr.sliceAt 36 vb none (some (.int .i64 (a : Int))) none).run Try.prog wx = .ok vs wx) ∧ ∀ wx, RowAt wx vb lb → RowAt wx vs (lb.take a) := by
  rcases hr with ⟨rfl, rfl⟩ | ⟨ad, c, rfl, rfl⟩ | ⟨h, off, cap, rfl, hc, _⟩
  · obtain rfl : a = 0 := by simpa using ha
    exact ⟨_, sl_run none 0 0 0 (by omega), fun wx h => by simpa using h⟩
  · obtain rfl : a = 0 := by simpa using ha
    exact ⟨_, sl_run (some ad) 0 c 0 (by omega), fun wx h => by simpa using h⟩
  · refine ⟨_, sl_run (some ⟨h, off, none⟩) lb.length cap a (by omega), fun wx hx => ?_⟩
    rcases hx with ⟨e, _⟩ | ⟨ad, c, e, rfl⟩ | ⟨h', off', cap', e, _, h3⟩
    · cases e
    · obtain rfl : a = 0 := by simpa using ha
      exact .inr (.inl ⟨_, _, rfl, by simp⟩)
    · injection e with e1 e2 e3
      injection e1 with e1
      injection e1 with e1 e4
      subst e1 e3 e4
      have hl : (lb.take a).length = a := by rw [List.length_take]; omega
      refine .inr (.inr ⟨h, off, cap, by rw [hl], by omega, fun i hi => ?_⟩)
      rw [hl] at hi
      rw [h3 i (by omega)]
      simp [List.getD_eq_getElem?_getD, hi]
/-- Numbers in a slice. -/
structure IntsAt (w : World) (v : Value) (m : Nat) (K : Nat → Int) : Prop where
  form : (∃ a c, v = .slice a 0 c ∧ m = 0) ∨ ∃ q o cap, v = .slice (some ⟨q, o, none⟩) m cap ∧ ∀ i, i < m → w.cell? ⟨q, o + i, none⟩ = some (.int .i64 (K i))
theorem IntsAt.sl {w : World} {v : Value} {m : Nat} {K : Nat → Int} (h : IntsAt w v m K) : ∃ a c, v = .slice a m c := by
  rcases h.form with ⟨a, c, rfl, rfl⟩ | ⟨q, o, cap, rfl, _⟩
  · exact ⟨_, _, rfl⟩
  · exact ⟨_, _, rfl⟩
theorem IntsAt.at {w : World} {a : Option Addr} {m c : Nat} {K : Nat → Int} (h : IntsAt w (.slice a m c) m K) {t : Nat} (ht : t < m) : ∃ q o, a = some ⟨q, o, none⟩ ∧ w.cell? ⟨q, o + t, none⟩ = some (.int .i64 (K t)) := by
  rcases h.form with ⟨_, _, _, h2⟩ | ⟨q, o, cap, h1, h2⟩
  · omega
  · injection h1 with h1 h3 h4
    exact ⟨q, o, h1, h2 t ht⟩

end Go.Proofs.Ytbkboebinhafhaa
