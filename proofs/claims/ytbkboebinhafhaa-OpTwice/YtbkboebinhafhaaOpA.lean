import Derived.Test.YtbkboebinhafhaaRefB
import Derived.Laws.StructEq
import Derived.ChangeKeysEq
namespace Go.Proofs.Ytbkboebinhafhaa
open Go.RowKit

/-! ### Operations as values. -/
structure OpV where
  kind : Int
  key : ByteArray
  text : ByteArray
  n : Int
  node : List Int
  op : Int

def idL (node : List Int) (op : Int) : List Value := bv (hl 32 (hof node)) ++ [.int .i64 op]
def opL (x : OpV) : List Value := [.int .i64 x.kind, .string x.key, .string x.text, .int .i64 x.n] ++ idL x.node x.op
def opA (x : OpV) : Array Value := (opL x).toArray
def idA (node : List Int) (op : Int) : Array Value := (idL node op).toArray
def z32 : List Int := List.replicate 32 0
def zeroOp : OpV := ⟨0, ByteArray.empty, ByteArray.empty, 0, z32, 0⟩

theorem idL_len (c : List Int) (o : Int) : (idL c o).length = 33 := by simp [idL, bv_len, hl_len]
theorem opL_len (x : OpV) : (opL x).length = 37 := by simp [opL, idL_len]
theorem opA_size (x : OpV) : (opA x).size = 37 := by simp [opA, opL_len]
theorem idA_size (c : List Int) (o : Int) : (idA c o).size = 33 := by simp [idA, idL_len]
theorem opA_list (x : OpV) : (opA x).toList = opL x := rfl
theorem opA_sizes (x y : OpV) : (opA x).size = (opA y).size := by rw [opA_size, opA_size]
theorem idL_node (c : List Int) (o : Int) : (idL c o).take 32 = bv (hl 32 (hof c)) := by
  unfold idL; exact List.take_left' (by simp [bv_len, hl_len])
theorem idL_op (c : List Int) (o : Int) : (idL c o)[32]? = some (.int .i64 o) := by
  unfold idL
  rw [List.getElem?_append_right (by simp [bv_len, hl_len])]
  simp [bv_len, hl_len]
theorem opA_0 (x : OpV) : (opA x)[0]? = some (.int .i64 x.kind) := by simp [opA, opL]
theorem opA_1 (x : OpV) : (opA x)[1]? = some (.string x.key) := by simp [opA, opL]
theorem opA_2 (x : OpV) : (opA x)[2]? = some (.string x.text) := by simp [opA, opL]
theorem opA_3 (x : OpV) : (opA x)[3]? = some (.int .i64 x.n) := by simp [opA, opL]
theorem opA_36 (x : OpV) : (opA x)[36]? = some (.int .i64 x.op) := by
  simp only [opA, opL, List.getElem?_toArray]
  rw [List.getElem?_append_right (by simp)]
  exact idL_op _ _
theorem opL_at (x : OpV) : (opL x).drop 4 = idL x.node x.op := by simp [opL]
theorem set_0 (x : OpV) (k : Int) : (opA x).setIfInBounds 0 (.int .i64 k) = opA { x with kind := k } := by simp [opA, opL]
theorem set_1 (x : OpV) (k : ByteArray) : (opA x).setIfInBounds 1 (.string k) = opA { x with key := k } := by simp [opA, opL]
theorem set_2 (x : OpV) (k : ByteArray) : (opA x).setIfInBounds 2 (.string k) = opA { x with text := k } := by simp [opA, opL]
theorem set_3 (x : OpV) (k : Int) : (opA x).setIfInBounds 3 (.int .i64 k) = opA { x with n := k } := by simp [opA, opL]
theorem set_36 (x : OpV) (k : Int) : (opA x).setIfInBounds 36 (.int .i64 k) = opA { x with op := k } := by
  simp only [opA, opL, idL, List.setIfInBounds_toArray]
  rw [List.set_append_right _ _ (by simp), List.set_append_right _ _ (by simp [bv_len, hl_len])]
  simp [bv_len, hl_len]
theorem put_at (x : OpV) (c : List Int) (o : Int) : ((opA x).toList.take 4 ++ (idA c o).toList ++ (opA x).toList.drop (4 + (idA c o).size)).toArray = opA { x with node := c, op := o } := by
  rw [idA_size, opA_list, List.drop_of_length_le (by rw [opL_len]; omega)]
  simp [opA, opL, idA]
theorem hl_hof (c : List Int) (h : c.length = 32) : hl 32 (hof c) = c := by
  apply List.ext_getElem (by rw [hl_len, h])
  intro i h1 h2
  have := hl_get 32 (hof c) i (by rw [hl_len] at h1; exact h1)
  rw [List.getD_eq_getElem?_getD, List.getElem?_eq_getElem h1, Option.getD_some] at this
  rw [this]
  simp [hof, List.getD, h2]
theorem hl_of (f : Nat → Int) : hl 32 (hof (hl 32 f)) = hl 32 f := hl_hof _ (hl_len _ _)
theorem bytesA_bv (f : Nat → Int) : bytesA 32 f = (bv (hl 32 f)).toArray := by
  apply Array.ext'; rw [hl_bytesA]
theorem put_node (x : OpV) (f : Nat → Int) : ((opA x).toList.take 4 ++ (bytesA 32 f).toList ++ (opA x).toList.drop (4 + (bytesA 32 f).size)).toArray = opA { x with node := hl 32 f } := by
  rw [bytesA_size, opA_list, bytesA_bv]
  simp only [opA, opL, idL]
  rw [hl_of]
  have : (List.drop (4 + 32) ([Value.int .i64 x.kind, Value.string x.key, Value.string x.text, Value.int .i64 x.n] ++ (bv (hl 32 (hof x.node)) ++ [Value.int .i64 x.op]))) = [Value.int .i64 x.op] := by
    rw [← List.append_assoc]
    exact List.drop_left' (by simp [bv_len, hl_len])
  rw [this]
  simp
theorem bv_cells (l : List Int) : ∀ v ∈ bv l, v.oneCell' = true := bv_one l
theorem opA_one (x : OpV) : (opA x).all (·.oneCell') = true := by
  rw [Array.all_eq_true_iff_forall_mem]
  intro v hv
  simp only [opA, opL, idL, List.mem_toArray, List.mem_append, List.mem_cons, List.not_mem_nil, or_false] at hv
  rcases hv with (rfl | rfl | rfl | rfl) | h | rfl
  · rfl
  · rfl
  · rfl
  · rfl
  · exact bv_one _ v h
  · rfl
theorem idA_one (c : List Int) (o : Int) : (idA c o).all (·.oneCell') = true := by
  rw [Array.all_eq_true_iff_forall_mem]
  intro v hv
  simp only [idA, idL, List.mem_toArray, List.mem_append, List.mem_cons, List.not_mem_nil, or_false] at hv
  rcases hv with h | rfl
  · exact bv_one _ v h
  · rfl

theorem Try.size33 : (Try.prog.info? 33).map (·.size) = some 37 := by kernel_rfl
theorem Try.size31 : (Try.prog.info? 31).map (·.size) = some 33 := by kernel_rfl
theorem Try.size33B (x : OpV) : (Try.prog.info? 33).map (·.size) = some (opA x).size := by rw [opA_size]; exact Try.size33
theorem Try.size33L (x : OpV) : (Try.prog.info? 33).map (·.size) = some (opL x).length := by rw [opL_len]; exact Try.size33
theorem Try.size31B (c : List Int) (o : Int) : (Try.prog.info? 31).map (·.size) = some (idA c o).size := by rw [idA_size]; exact Try.size31
theorem Try.size31L (c : List Int) (o : Int) : (Try.prog.info? 31).map (·.size) = some (idL c o).length := by rw [idL_len]; exact Try.size31
theorem Try.new33 (w : World) : (Instr.alloc 33 true (.tuple #[])).run Try.prog w = .ok (.pointer (some ⟨w.heap.size, 0, none⟩)) (w.alloc (.cells (opA zeroOp) 33)) := by kernel_rfl
theorem Try.built33 : Try.prog.built 33 [] = some (opA zeroOp) := by kernel_rfl
theorem Try.built31 : Try.prog.built 31 [] = some (idA z32 0) := by kernel_rfl
theorem Try.built29 : Try.prog.built 29 [] = some (bytesA 32 (hof z32)) := by kernel_rfl

/-! ### Two arrays of bytes, two places, two operations: the same? -/
def nd (p q : List Int) : Bool := (List.range 32).all fun i => hof p i == hof q i
def sm (a b : OpV) : Bool := a.kind == b.kind && (a.key == b.key && (a.text == b.text && (a.n == b.n && (nd a.node b.node && a.op == b.op))))
theorem nd_eq {p q : List Int} (hp : p.length = 32) (hq : q.length = 32) : nd p q = decide (p = q) := by
  by_cases h : p = q
  · subst h; simp [nd]
  · rw [decide_eq_false h, Bool.eq_false_iff]
    intro h2
    refine h ?_
    rw [← hl_hof p hp, ← hl_hof q hq]
    unfold hl
    apply List.map_congr_left
    intro i hi
    have := List.all_eq_true.1 h2 i hi
    simpa using this
theorem nd_refl (p : List Int) : nd p p = true := by simp [nd]
theorem bs_refl (a : ByteArray) : (a == a) = true := by rw [beq_toListBytes]; simp
theorem bs_iff (a b : ByteArray) : (a == b) = true ↔ a = b := by
  rw [beq_toListBytes]
  constructor
  · intro h
    have h' : a.toList = b.toList := by simpa using h
    rw [ByteArray.toList_eq, ByteArray.toList_eq] at h'
    obtain ⟨⟨x⟩⟩ := a
    obtain ⟨⟨y⟩⟩ := b
    simp at h'
    rw [h']
  · rintro rfl; simp
theorem sm_refl (a : OpV) : sm a a = true := by simp [sm, nd_refl, bs_refl]
theorem sm_iff {a b : OpV} (ha : a.node.length = 32) (hb : b.node.length = 32) : sm a b = true ↔ a = b := by
  constructor
  · intro h
    simp only [sm, Bool.and_eq_true, beq_iff_eq, bs_iff, nd_eq ha hb, decide_eq_true_eq] at h
    obtain ⟨h1, h2, h3, h4, h5, h6⟩ := h
    cases a; cases b
    simp_all
  · rintro rfl; exact sm_refl a

theorem Try.cells5q : Try.prog.cellsOf 5 = 1 := by kernel_rfl
theorem Try.isAgg5q (w : World) : (isAgg 5).run Try.prog w = .ok false w := by kernel_rfl
theorem Try.size5q : (Try.prog.info? 5).map (·.size) = some 1 := by kernel_rfl
theorem run_part5q (c : Nat → Int) (i : Nat) (hi : i < 32) (w : World) : (part 5 (bytesA 32 c) i).run Try.prog w = .ok (.int .u8 (c i)) w := by
  unfold part
  rw [Sem.run_bind, Try.isAgg5q]
  simp [Result.andThen, bytesA_get 32 c i hi]
theorem run_items2 (c e : Nat → Int) (d : Nat) (w : World) : ∀ is : List Nat, (∀ i ∈ is, i < 32) → (Op.eqItems (d + 1) 5 1 (bytesA 32 c) (bytesA 32 e) is).run Try.prog w = .ok (is.all fun i => c i == e i) w
  | [], _ => by simp [Op.eqItems]
  | i :: is, h => by
    have hi := h i (by simp)
    have ih := run_items2 c e d w is (fun j hj => h j (by simp [hj]))
    simp only [Op.eqItems, Sem.run_bind, Nat.mul_one, run_part5q c i hi, run_part5q e i hi, Result.andThen_ok]
    rw [run_equalIn_int (P := Try.prog) (w := w) d 5 .u8 .u8 (c i) (e i) Try.underlying5]
    by_cases hh : c i = e i
    · simp [Result.andThen_ok, ih, hh]
    · simp [Result.andThen_ok, hh]
theorem run_equal_arr2 (d : Nat) (c e : List Int) (w : World) : (Op.equalIn (d + 2) 29 (.agg (bytesA 32 (hof c))) (.agg (bytesA 32 (hof e)))).run Try.prog w = .ok (nd c e) w := by
  obtain ⟨i, hi, _⟩ := Option.map_eq_some_iff.1 Try.size5q
  rw [run_equalIn_array (P := Try.prog) w (d + 1) _ _ Try.underlying29 hi, Try.cells5q]
  exact run_items2 (hof c) (hof e) d w _ (fun j hj => List.mem_range.1 hj)
theorem run_eqlH (c e : List Int) (w : World) : (binOp .eql 29 (.agg (bytesA 32 (hof c))) (.agg (bytesA 32 (hof e)))).run Try.prog w = .ok (.bool (nd c e)) w := by
  rw [run_eql_struct, run_equal_arr2 9998]; rfl
theorem run_neqH (c e : List Int) (w : World) : (binOp .neq 29 (.agg (bytesA 32 (hof c))) (.agg (bytesA 32 (hof e)))).run Try.prog w = .ok (.bool (!nd c e)) w := by
  rw [run_neq_struct, run_equal_arr2 9998]; rfl
theorem Try.isAgg29q (w : World) : (isAgg 29).run Try.prog w = .ok true w := by kernel_rfl
theorem Try.isAgg31q (w : World) : (isAgg 31).run Try.prog w = .ok true w := by kernel_rfl
theorem Try.isAgg3q (w : World) : (isAgg 3).run Try.prog w = .ok false w := by kernel_rfl
theorem Try.isAgg2q (w : World) : (isAgg 2).run Try.prog w = .ok false w := by kernel_rfl
theorem Try.isAgg9q (w : World) : (isAgg 9).run Try.prog w = .ok false w := by kernel_rfl
theorem Try.sizeOf29q (w : World) : (sizeOf 29).run Try.prog w = .ok 32 w := by kernel_rfl
theorem Try.sizeOf31q (w : World) : (sizeOf 31).run Try.prog w = .ok 33 w := by kernel_rfl
theorem Try.fields31 : (Try.prog.fieldsOf 31).toList.map (fun f => (f.name == "_", f.type, f.offset)) = [(false, 29, 0), (false, 3, 32)] := by kernel_rfl
theorem Try.fields33 : (Try.prog.fieldsOf 33).toList.map (fun f => (f.name == "_", f.type, f.offset)) = [(false, 3, 0), (false, 9, 1), (false, 9, 2), (false, 2, 3), (false, 31, 4)] := by kernel_rfl
theorem run_part29 (c : List Int) (o : Int) (w : World) : (part 29 (idA c o) 0).run Try.prog w = .ok (.agg (bytesA 32 (hof c))) w := by
  unfold part
  simp only [Sem.run_bind, Try.isAgg29q, Result.andThen_ok, Try.sizeOf29q, if_true]
  rw [bytesA_bv, show (idA c o).extract 0 (0 + 32) = (bv (hl 32 (hof c))).toArray by
    apply Array.ext'
    simp only [idA, Array.toList_extract, List.extract_eq_take_drop, List.drop_zero]
    exact idL_node c o]
  rfl
theorem run_part32 (c : List Int) (o : Int) (w : World) : (part 3 (idA c o) 32).run Try.prog w = .ok (.int .i64 o) w := by
  unfold part
  simp only [Sem.run_bind, Try.isAgg3q, Result.andThen_ok]
  have : (idA c o)[32]? = some (.int .i64 o) := by simp only [idA, List.getElem?_toArray]; exact idL_op c o
  simp [this]
theorem fields_of {fs : List Field} {l : List (Bool × TypeId × Nat)} (h : fs.map (fun f => (f.name == "_", f.type, f.offset)) = l) (d : Nat) (xs ys : Array Value) (w : World) :
    (Op.eqFields d xs ys fs).run Try.prog w = (l.foldr (fun q k => if q.1 = false then do
      let a ← part q.2.1 xs q.2.2
      let b ← part q.2.1 ys q.2.2
      let r ← Op.equalIn d q.2.1 a b
      if (!r) = true then pure false else k
    else k) (pure true : Sem Bool)).run Try.prog w := by
  subst h
  congr 1
  induction fs with
  | nil => rfl
  | cons f fs ih =>
    simp only [Op.eqFields, List.map_cons, List.foldr_cons, ih]
    by_cases hf : f.name = "_" <;> simp [hf]
theorem run_equal31 (d : Nat) (c e : List Int) (o p : Int) (w : World) : (Op.equalIn (d + 3) 31 (.agg (idA c o)) (.agg (idA e p))).run Try.prog w = .ok (nd c e && o == p) w := by
  rw [run_equalIn_agg (P := Try.prog) w (d + 2) 31 _ _ (by kernel_rfl) (by kernel_rfl), fields_of Try.fields31]
  simp only [List.foldr_cons, List.foldr_nil, if_true, Sem.run_bind, run_part29, run_part32, Result.andThen_ok, run_equal_arr2 d, Sem.run_ite, run_equalIn_int (P := Try.prog) w (d + 1) 3 .i64 .i64 o p Try.underlying3, Sem.run_pure]
  cases nd c e <;> cases o == p <;> simp
theorem run_eql31 (c e : List Int) (o p : Int) (w : World) : (binOp .eql 31 (.agg (idA c o)) (.agg (idA e p))).run Try.prog w = .ok (.bool (nd c e && o == p)) w := by
  rw [run_eql_struct, run_equal31 9997]; rfl
theorem run_partA (x : OpV) (w : World) : (part 31 (opA x) 4).run Try.prog w = .ok (.agg (idA x.node x.op)) w := by
  unfold part
  simp only [Sem.run_bind, Try.isAgg31q, Result.andThen_ok, Try.sizeOf31q, if_true]
  rw [show (opA x).extract 4 (4 + 33) = idA x.node x.op by
    apply Array.ext'
    simp only [opA, idA, Array.toList_extract, List.extract_eq_take_drop, opL_at]
    exact List.take_of_length_le (by rw [idL_len]; omega)]
  rfl
theorem run_part1 (t : TypeId) (hs : ∀ w, (isAgg t).run Try.prog w = .ok false w) (cs : Array Value) (j : Nat) (v : Value) (h : cs[j]? = some v) (w : World) : (part t cs j).run Try.prog w = .ok v w := by
  unfold part
  simp only [Sem.run_bind, hs, Result.andThen_ok]
  simp [h]
theorem run_equal33 (x y : OpV) (w : World) : (Op.equalIn 10000 33 (.agg (opA x)) (.agg (opA y))).run Try.prog w = .ok (sm x y) w := by
  rw [run_equalIn_agg (P := Try.prog) w 9999 33 _ _ (by kernel_rfl) (by kernel_rfl), fields_of Try.fields33]
  simp only [List.foldr_cons, List.foldr_nil, if_true, Sem.run_bind, run_partA, run_part1 3 Try.isAgg3q _ 0 _ (opA_0 _), run_part1 9 Try.isAgg9q _ 1 _ (opA_1 _), run_part1 9 Try.isAgg9q _ 2 _ (opA_2 _), run_part1 2 Try.isAgg2q _ 3 _ (opA_3 _), Result.andThen_ok, run_equal31 9996, Sem.run_ite,
    run_equalIn_int (P := Try.prog) w 9998 3 .i64 .i64 _ _ Try.underlying3, run_equalIn_int (P := Try.prog) w 9998 2 .i64 .i64 _ _ Try.underlying2, run_equalIn_string (P := Try.prog) w 9998 9 _ _ Try.underlying9, Sem.run_pure, ← beq_toListBytes]
  unfold sm
  cases x.kind == y.kind <;> cases x.key == y.key <;> cases x.text == y.text <;> cases x.n == y.n <;> cases nd x.node y.node <;> cases x.op == y.op <;> simp
theorem run_eql33 (x y : OpV) (w : World) : (binOp .eql 33 (.agg (opA x)) (.agg (opA y))).run Try.prog w = .ok (.bool (sm x y)) w := by
  rw [run_eql_struct, run_equal33]; rfl
end Go.Proofs.Ytbkboebinhafhaa
