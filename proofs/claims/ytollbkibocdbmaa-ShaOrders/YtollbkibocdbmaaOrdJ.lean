import Derived.Test.YtollbkibocdbmaaOrdH
import Derived.Laws.CopyRow
namespace Go.Proofs.Ytollbkibocdbmaa
open Go.RowKit Go.Sort

theorem flatH_take : ∀ (L : List Hs) (k : Nat), (flatH L).take (k * 32) = flatH (L.take k)
  | _, 0 => by simp [flatH_nil]
  | [], k + 1 => by simp [flatH_nil]
  | x :: L, k + 1 => by
    rw [flatH_cons, List.take_succ_cons, flatH_cons, ← flatH_take L k, List.take_append, encH_len, List.take_of_length_le (by rw [encH_len]; omega), show (k + 1) * 32 - 32 = k * 32 by omega]
theorem flatH_drop : ∀ (L : List Hs) (k : Nat), (flatH L).drop (k * 32) = flatH (L.drop k)
  | _, 0 => by simp
  | [], k + 1 => by simp [flatH_nil]
  | x :: L, k + 1 => by
    rw [flatH_cons, List.drop_succ_cons, ← flatH_drop L k, List.drop_append, encH_len, List.drop_of_length_le (by rw [encH_len]; omega), show (k + 1) * 32 - 32 = k * 32 by omega]
    rfl
theorem flatH_arr_size (L : List Hs) : (flatH L).toArray.size = L.length * 32 := by rw [List.size_toArray, flatH_len]
theorem zeroCellsH (n : Nat) : (Builtin.zeroCells (bytesA 32 fun _ => 0) n).toList = flatH (List.replicate n default) := by
  unfold Builtin.zeroCells
  rw [bytesA_size]
  apply List.ext_getElem?
  intro t
  by_cases ht : t < n * 32
  · have h1 := flatH_get (List.replicate n default) (t / 32) (by simp; omega) (t % 32) (by omega)
    rw [show t / 32 * 32 + t % 32 = t by omega, encH_get _ _ (by omega)] at h1
    rw [h1]
    have h2 : t % 32 < 32 := by omega
    have h3 : (bytesA 32 fun _ => 0)[t % 32]! = Value.int .u8 0 := by
      rw [getElem!_pos _ _ (by rw [bytesA_size]; exact h2)]
      have := bytesA_get 32 (fun _ => 0) (t % 32) h2
      rw [Array.getElem?_eq_getElem (by rw [bytesA_size]; exact h2)] at this
      exact Option.some.inj this
    have h4 : (default : Hs).f (t % 32) = 0 := Hs.default_f _ h2
    simp only [Array.toList_map, Array.toList_range, List.getElem?_map, List.getElem?_range ht, Option.map_some, h3, List.getElem_replicate, h4]
  · rw [List.getElem?_eq_none (by simp; omega), List.getElem?_eq_none (by rw [flatH_len]; simp; omega)]

/-- copy of hashes over a whole block. -/
theorem run_copyH (w : World) (g cap : Nat) (v : Value) (D : List Hs) (ty : TypeId) (cur : Array Value) (hg : Blk w g 23 cur) (hs : cur.size = D.length * 32) (hr : HRow w v D) :
    (Builtin.copy_ #[45, 45] ty #[.slice (some ⟨g, 0, none⟩) D.length cap, v]).run Try.prog w = .ok (goInt D.length) (w.setRow g (flatH D).toArray) := by
  have hst := run_storeCells_at Try.prog g 0 23 (flatH D) 0 cur w hg (by rw [flatH_len]; omega) (flatH_one D)
  have hcur : (cur.toList.take (0 + 0) ++ flatH D ++ cur.toList.drop (0 + 0 + (flatH D).length)).toArray = (flatH D).toArray := by
    rw [flatH_len, List.drop_of_length_le (by rw [Array.length_toList]; omega)]; simp
  rw [hcur] at hst
  obtain ⟨i, hi, hsz⟩ := Option.map_eq_some_iff.1 Try.size23
  rcases hr with ⟨a, c, rfl, rfl, hac⟩ | ⟨b, off, cap2, rfl, _, hc⟩
  · rw [flatH_nil] at hst
    rw [flatH_nil]
    cases a with
    | none => simp [Builtin.copy_, run_underlying Try.underlying45, Builtin.lenOf, Builtin.firstCells, sizeOf, typeInfo, hi, hst]
    | some ad => simp [Builtin.copy_, run_underlying Try.underlying45, Builtin.lenOf, Builtin.firstCells, sizeOf, typeInfo, hi, loadCells, loadCellsFrom, hst]
  · have hl := run_loadCells_list (P := Try.prog) w ⟨b, off, none⟩ (flatH D) (fun j v hv => by rw [Addr.add_mid]; exact hc j v hv)
    rw [flatH_len] at hl
    simp [Builtin.copy_, run_underlying Try.underlying45, Builtin.lenOf, Builtin.firstCells, sizeOf, typeInfo, hi, hsz, hl, hst]

theorem wpList_copyH {ops : Array Oper} {rest : List Oper} {o : Oper} {a : Act} {w : World} {Q : Exit → Act → World → Prop} (hgd : o.guard = none) (d s : Operand)
    (ho : o.op = .call { callee := .builtin .copy, args := #[d, s], argTypes := #[45, 45] }) (g cap : Nat) (v : Value) (D : List Hs) (cur : Array Value)
    (hd : a.eval d = .slice (some ⟨g, 0, none⟩) D.length cap) (hs : a.eval s = v) (hg : Blk w g 23 cur) (hsz : cur.size = D.length * 32) (hr : HRow w v D)
    (h : wpList Try.prog ops Q rest (a.put o.dst (goInt D.length)) (w.setRow g (flatH D).toArray)) : wpList Try.prog ops Q (o :: rest) a w := by
  refine wpList_plain hgd fun K hK => ?_
  have hrun := run_copyH w g cap v D o.type cur hg hsz hr
  unfold Oper.wp
  simp only [execOp, ho, resolve, invoke, builtin, List.map_toArray, List.map_cons, List.map_nil, hd, hs, Sem.run_bind, Sem.run_pure, hrun, Result.andThen_ok]
  exact hK _ _ h

theorem run_makeH (n : Nat) (hn : n ≤ 4398046511104) (w : World) : (Instr.makeSlice 45 (.int .i64 (n : Int)) (.int .i64 (n : Int))).run Try.prog w = .ok (.slice (some ⟨w.heap.size, 0, none⟩) n n) (w.alloc (.cells (madeCells (bytesA 32 fun _ => 0) (n * 32)) 23)) := by
  obtain ⟨i, hi, hzz⟩ := Option.map_eq_some_iff.1 Try.info23
  simp only [Prod.mk.injEq] at hzz
  obtain ⟨hz, hs, hb⟩ := hzz
  have hr := run_make (P := Try.prog) w 45 23 i _ Try.underlying45 hi hz .i64 .i64 (n : Int) (n : Int) (by omega) (by omega) (by rw [hb]; omega) (by omega)
  simp only [Int.toNat_natCast, hs, Value.cells] at hr
  exact hr
theorem wpList_makeH {ops : Array Oper} {rest : List Oper} {o : Oper} {a : Act} {w : World} {Q : Exit → Act → World → Prop} (hgd : o.guard = none) (x y : Operand) (ho : o.op = .makeSlice 45 x y) (n : Nat) (hn : n ≤ 4398046511104)
    (hx : a.eval x = .int .i64 (n : Int)) (hy : a.eval y = .int .i64 (n : Int))
    (h : wpList Try.prog ops Q rest (a.put o.dst (.slice (some ⟨w.heap.size, 0, none⟩) n n)) (w.alloc (.cells (madeCells (bytesA 32 fun _ => 0) (n * 32)) 23))) : wpList Try.prog ops Q (o :: rest) a w := by
  refine wpList_plain hgd fun K hK => ?_
  unfold Oper.wp
  simp only [execOp, ho, hx, hy, Sem.run_bind, run_makeH n hn w, Result.andThen_ok]
  exact hK _ _ h

/-- clear of the hashes behind the first k. -/
theorem run_clearH (w : World) (g k m c : Nat) (E : List Hs) (ty : TypeId) (hg : Blk w g 23 (flatH E).toArray) (hl : E.length = k + m) (hm : 0 < m) :
    (Builtin.clear_ #[45] ty #[.slice (some ⟨g, k * 32, none⟩) m c]).run Try.prog w = .ok (.tuple #[]) (w.setRow g (flatH (E.take k ++ List.replicate m default)).toArray) := by
  have hst := run_storeCells_at Try.prog g (k * 32) 23 (flatH (List.replicate m default)) 0 _ w hg (by rw [flatH_len, flatH_arr_size, List.length_replicate]; omega) (flatH_one _)
  have hcur : ((flatH E).toArray.toList.take (k * 32 + 0) ++ flatH (List.replicate m default) ++ (flatH E).toArray.toList.drop (k * 32 + 0 + (flatH (List.replicate m default)).length)).toArray = (flatH (E.take k ++ List.replicate m default)).toArray := by
    rw [flatH_len, List.length_replicate, Nat.add_zero, flatH_app]
    show ((flatH E).take (k * 32) ++ _ ++ (flatH E).drop _).toArray = _
    rw [flatH_take, List.drop_of_length_le (by rw [flatH_len]; omega), List.append_nil]
  rw [hcur] at hst
  obtain ⟨i, hi, hzz⟩ := Option.map_eq_some_iff.1 Try.info23
  simp only [Prod.mk.injEq] at hzz
  obtain ⟨n, rfl⟩ : ∃ n, m = n + 1 := ⟨m - 1, by omega⟩
  simp [Builtin.clear_, run_underlying Try.underlying45, zeroValue, typeInfo, hi, hzz.1, Value.cells, zeroCellsH, hst]

theorem setH_flat (E : List Hs) (k : Nat) (x : Hs) (hk : k < E.length) : ((flatH E).toArray.toList.take (k * 32) ++ (encH x) ++ (flatH E).toArray.toList.drop (k * 32 + 32)).toArray = (flatH (E.set k x)).toArray := by
  show ((flatH E).take (k * 32) ++ _ ++ (flatH E).drop _).toArray = _
  rw [flatH_take, show k * 32 + 32 = (k + 1) * 32 by omega, flatH_drop]
  have : E.set k x = E.take k ++ [x] ++ E.drop (k + 1) := by
    rw [List.set_eq_take_append_cons_drop, if_pos hk]; simp
  rw [this, flatH_app, flatH_app]
  simp [flatH]
/-- A hash into its place of a block. -/
theorem wpList_storeH {ops : Array Oper} {rest : List Oper} {o : Oper} {a : Act} {w : World} {Q : Exit → Act → World → Prop} (hgd : o.guard = none) (x y : Operand) (ho : o.op = .store 23 x y)
    (g k : Nat) (hh : Hs) (E : List Hs) (hx : a.eval x = .pointer (some ⟨g, k * 32, none⟩)) (hy : a.eval y = .agg (encH hh).toArray) (hg : Blk w g 23 (flatH E).toArray) (hk : k < E.length)
    (h : wpList Try.prog ops Q rest (a.put o.dst undef) (w.setRow g (flatH (E.set k hh)).toArray)) : wpList Try.prog ops Q (o :: rest) a w := by
  have e1 : (Try.prog.info? 23).map (·.size) = some (encH hh).toArray.size := by rw [List.size_toArray, encH_len]; exact Try.size23
  have e2 : k * 32 + (encH hh).toArray.size ≤ (flatH E).toArray.size := by rw [flatH_arr_size, List.size_toArray, encH_len]; omega
  have e3 : (encH hh).toArray.all (·.oneCell') = true := all_oneCell_toArray (encH_one hh)
  have e4 : ((flatH E).toArray.toList.take (k * 32) ++ (encH hh).toArray.toList ++ (flatH E).toArray.toList.drop (k * 32 + (encH hh).toArray.size)).toArray = (flatH (E.set k hh)).toArray := by
    rw [← setH_flat E k hh hk, List.size_toArray, encH_len]
  generalize (encH hh).toArray = C at *
  generalize (flatH E).toArray = F at *
  generalize (flatH (E.set k hh)).toArray = G at *
  refine wpList_plain hgd fun K hK => ?_
  refine wp_store_part 23 x y ho g (k * 32) C hx hy 23 F hg e1 e2 e3 ?_
  rw [e4]
  exact hK _ _ h
end Go.Proofs.Ytollbkibocdbmaa
