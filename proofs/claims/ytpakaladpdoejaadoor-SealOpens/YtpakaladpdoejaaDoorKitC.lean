import Derived.Test.YtpakaladpdoejaaDoorKitB
namespace Go.Proofs.YtpakaladpdoejaaDoor
open Go.RowKit

/-- Fewer bytes copied to the head of more, from a place on. -/
theorem run_copyG (w : World) (g o N cap : Nat) (v : Value) (m : List Int) (ty T : TypeId) (cur : Array Value) (hg : Blk w g T cur) (hN : m.length ≤ N) (hs : o + m.length ≤ cur.size) (hr : RowAt w v m) :
    (Builtin.copy_ #[22, 22] ty #[.slice (some ⟨g, o, none⟩) N cap, v]).run Tryd.prog w = .ok (goInt m.length) (w.setRow g (cur.toList.take o ++ bv m ++ cur.toList.drop (o + m.length)).toArray) := by
  have hst := run_storeCells_at Tryd.prog g o T (bv m) 0 cur w hg (by rw [bv_len]; omega) (bv_one m)
  rw [bv_len, Nat.add_zero] at hst
  have hmin : Nat.min m.length N = m.length := Nat.min_eq_left hN
  obtain ⟨i, hi, hzz⟩ := Option.map_eq_some_iff.1 Tryd.info5
  simp only [Prod.mk.injEq] at hzz
  obtain ⟨_, hsz, _⟩ := hzz
  rcases hr with ⟨rfl, rfl⟩ | ⟨ad, c, rfl, rfl⟩ | ⟨b, off, cap2, rfl, _, hc⟩
  · simp only [bv, List.map_nil, List.length_nil] at hst ⊢
    simp [Builtin.copy_, run_underlying Tryd.underlying22, Builtin.lenOf, Builtin.firstCells, sizeOf, typeInfo, hi, hst]
  · simp only [bv, List.map_nil, List.length_nil] at hst ⊢
    simp [Builtin.copy_, run_underlying Tryd.underlying22, Builtin.lenOf, Builtin.firstCells, sizeOf, typeInfo, hi, loadCells, loadCellsFrom, hst]
  · have hl := run_loadCells_list (P := Tryd.prog) w ⟨b, off, none⟩ (bv m) (fun j v hv => by
      have hj : j < m.length := by have := (List.getElem?_eq_some_iff.1 hv).1; rwa [bv_len] at this
      rw [bv_get m j hj] at hv
      rw [Addr.add_mid, hc j hj]; exact hv)
    rw [bv_len] at hl
    simp [Builtin.copy_, run_underlying Tryd.underlying22, Builtin.lenOf, Builtin.firstCells, sizeOf, typeInfo, hi, hsz, hmin, hl, hst]
theorem wpList_copyG {ops : Array Oper} {rest : List Oper} {op : Oper} {a : Act} {w : World} {Q : Exit → Act → World → Prop} (hgd : op.guard = none) (d s : Operand)
    (ho : op.op = .call { callee := .builtin .copy, args := #[d, s], argTypes := #[22, 22] }) (g o N cap : Nat) (v : Value) (m : List Int) (T : TypeId) (cur : Array Value)
    (hd : a.eval d = .slice (some ⟨g, o, none⟩) N cap) (hs : a.eval s = v) (hg : Blk w g T cur) (hN : m.length ≤ N) (hsz : o + m.length ≤ cur.size) (hr : RowAt w v m)
    (h : wpList Tryd.prog ops Q rest (a.put op.dst (goInt m.length)) (w.setRow g (cur.toList.take o ++ bv m ++ cur.toList.drop (o + m.length)).toArray)) : wpList Tryd.prog ops Q (op :: rest) a w := by
  refine wpList_plain hgd fun K hK => ?_
  have hrun := run_copyG w g o N cap v m op.type T cur hg hN hsz hr
  unfold Oper.wp
  simp only [execOp, ho, resolve, invoke, builtin, List.map_toArray, List.map_cons, List.map_nil, hd, hs, Sem.run_bind, Sem.run_pure, hrun, Result.andThen_ok]
  exact hK _ _ h
theorem Own.cells {w : World} {g n cap : Nat} {l : List Int} (h : Own w (.slice (some ⟨g, 0, none⟩) n cap) l) (t : Nat) (ht : t < l.length) : w.cell? ⟨g, t, none⟩ = some (.int .u8 (l.getD t 0)) ∧ w.frozen? ⟨g, t, none⟩ = false := h.tail.cells t ht
theorem Own.set {w : World} {g n cap : Nat} {l : List Int} (h : Own w (.slice (some ⟨g, 0, none⟩) n cap) l) (t : Nat) (c : Int) : Own (w.setCell ⟨g, t, none⟩ (.int .u8 c)) (.slice (some ⟨g, 0, none⟩) n cap) (l.set t c) := by
  rcases h.form with ⟨e, _⟩ | ⟨g', cap', cur, e, hb, h3, h4, h5, h6⟩
  · cases e
  · injection e with e1 e2 e3
    injection e1 with e1
    injection e1 with e1
    subst e1 e2 e3
    have hm := Own.mk (l := l.set t c) (hb.set t (.int .u8 c)) (by rw [List.length_set]; exact h3) h4 (by simp [h5]) (by rw [Array.toList_setIfInBounds, List.length_set, List.take_set, h6, bv_set])
    rw [List.length_set] at hm
    exact hm
end Go.Proofs.YtpakaladpdoejaaDoor
