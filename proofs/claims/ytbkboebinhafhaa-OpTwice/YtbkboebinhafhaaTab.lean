import Derived.Test.YtbkboebinhafhaaOpA
import Derived.Test.YtbkboebinhafhaaRdA
import Derived.Maps.Own
namespace Go.Proofs.Ytbkboebinhafhaa
open Go.RowKit

def fnv (n : Nat) : Value := .func (.func n) #[] #[]
/-- The functions of a field: 0 the Key, 1 the Text, 2 the N, 3 the At. -/
def fldA (i : Nat) : Array Value := if i = 0 then #[fnv 65, fnv 66, fnv 68] else if i = 1 then #[fnv 70, fnv 71, fnv 72] else if i = 2 then #[fnv 73, fnv 74, fnv 76] else #[fnv 78, fnv 79, fnv 80]
theorem fldA_size (i : Nat) : (fldA i).size = 3 := by
  unfold fldA
  split
  · rfl
  · split
    · rfl
    · split <;> rfl
theorem fldA_one (i : Nat) : (fldA i).all (·.oneCell') = true := by
  unfold fldA
  split
  · simp [fnv, Value.oneCell']
  · split
    · simp [fnv, Value.oneCell']
    · split <;> simp [fnv, Value.oneCell']
def noF : Array Value := #[.nilFunc, .nilFunc, .nilFunc]
theorem Try.size82 : (Try.prog.info? 82).map (·.size) = some 3 := by kernel_rfl
theorem Try.size82B (i : Nat) : (Try.prog.info? 82).map (·.size) = some (fldA i).size := by rw [fldA_size]; exact Try.size82
theorem Try.size82L (i : Nat) : (Try.prog.info? 82).map (·.size) = some (fldA i).toList.length := by rw [Array.length_toList, fldA_size]; exact Try.size82
theorem Try.new82 (w : World) : (Instr.alloc 82 true (.tuple #[])).run Try.prog w = .ok (.pointer (some ⟨w.heap.size, 0, none⟩)) (w.alloc (.cells noF 82)) := by kernel_rfl
theorem noF_sizes (i : Nat) : noF.size = (fldA i).size := by rw [fldA_size]; rfl
theorem fld0_any (w : World) : Calls Try.prog 50 #[] w fun e w' => e = .returned (.agg (fldA 0)) ∧ Below w.heap.size w w' := by
  have HB := Keep.mk (Blk.new w 82 noF)
  have HW := Keep.mk (below_new w (.cells noF 82))
  go_enter Try.func50, Try.ntmps50
  go_wp2_with (first | (refine wpList_new rfl 82 rfl _ Try.new82 ?_) | (refine wpList_bld rfl 82 _ rfl (fldA 0) (by kernel_rfl) ?_; refine wpList_store_row rfl 82 (.tmp 0) (.tmp 1) rfl w.heap.size (fldA 0) rfl rfl 82 noF HB.out (Try.size82B 0) rfl (fldA_one 0) ?_))
  refine bodyPost_ret (v := .agg (fldA 0)) (results_cell1_row Try.results50 _ _ w.heap.size 82 _ (0, 0) _ rfl (HB.out.setRow _) Try.underlying82 rfl (Try.size82B 0)) rfl ?_
  exact ⟨rfl, below_setRow HW.out (Nat.le_refl _) _⟩
theorem fld1_any (w : World) : Calls Try.prog 51 #[] w fun e w' => e = .returned (.agg (fldA 1)) ∧ Below w.heap.size w w' := by
  have HB := Keep.mk (Blk.new w 82 noF)
  have HW := Keep.mk (below_new w (.cells noF 82))
  go_enter Try.func51, Try.ntmps51
  go_wp2_with (first | (refine wpList_new rfl 82 rfl _ Try.new82 ?_) | (refine wpList_bld rfl 82 _ rfl (fldA 1) (by kernel_rfl) ?_; refine wpList_store_row rfl 82 (.tmp 0) (.tmp 1) rfl w.heap.size (fldA 1) rfl rfl 82 noF HB.out (Try.size82B 1) rfl (fldA_one 1) ?_))
  refine bodyPost_ret (v := .agg (fldA 1)) (results_cell1_row Try.results51 _ _ w.heap.size 82 _ (0, 0) _ rfl (HB.out.setRow _) Try.underlying82 rfl (Try.size82B 1)) rfl ?_
  exact ⟨rfl, below_setRow HW.out (Nat.le_refl _) _⟩
theorem fld2_any (w : World) : Calls Try.prog 52 #[] w fun e w' => e = .returned (.agg (fldA 2)) ∧ Below w.heap.size w w' := by
  have HB := Keep.mk (Blk.new w 82 noF)
  have HW := Keep.mk (below_new w (.cells noF 82))
  go_enter Try.func52, Try.ntmps52
  go_wp2_with (first | (refine wpList_new rfl 82 rfl _ Try.new82 ?_) | (refine wpList_bld rfl 82 _ rfl (fldA 2) (by kernel_rfl) ?_; refine wpList_store_row rfl 82 (.tmp 0) (.tmp 1) rfl w.heap.size (fldA 2) rfl rfl 82 noF HB.out (Try.size82B 2) rfl (fldA_one 2) ?_))
  refine bodyPost_ret (v := .agg (fldA 2)) (results_cell1_row Try.results52 _ _ w.heap.size 82 _ (0, 0) _ rfl (HB.out.setRow _) Try.underlying82 rfl (Try.size82B 2)) rfl ?_
  exact ⟨rfl, below_setRow HW.out (Nat.le_refl _) _⟩
theorem fld3_any (w : World) : Calls Try.prog 53 #[] w fun e w' => e = .returned (.agg (fldA 3)) ∧ Below w.heap.size w w' := by
  have HB := Keep.mk (Blk.new w 82 noF)
  have HW := Keep.mk (below_new w (.cells noF 82))
  go_enter Try.func53, Try.ntmps53
  go_wp2_with (first | (refine wpList_new rfl 82 rfl _ Try.new82 ?_) | (refine wpList_bld rfl 82 _ rfl (fldA 3) (by kernel_rfl) ?_; refine wpList_store_row rfl 82 (.tmp 0) (.tmp 1) rfl w.heap.size (fldA 3) rfl rfl 82 noF HB.out (Try.size82B 3) rfl (fldA_one 3) ?_))
  refine bodyPost_ret (v := .agg (fldA 3)) (results_cell1_row Try.results53 _ _ w.heap.size 82 _ (0, 0) _ rfl (HB.out.setRow _) Try.underlying82 rfl (Try.size82B 3)) rfl ?_
  exact ⟨rfl, below_setRow HW.out (Nat.le_refl _) _⟩

/-! ### A map from numbers, entry by entry. -/
/-- Block m is a map of these entries, each key once. -/
def MapIs (w : World) (m : Nat) (ps : List (Int × Value)) : Prop :=
  ∃ es clock, w.heap[m]? = some (.map es clock) ∧ es.toList.map (fun e => (e.key, e.val)) = ps.map fun p => (Value.int .i64 p.1, p.2)
theorem MapIs.lt {w : World} {m : Nat} {ps : List (Int × Value)} (h : MapIs w m ps) : m < w.heap.size := by
  obtain ⟨es, clock, h1, _⟩ := h
  exact (Array.getElem?_eq_some_iff.1 h1).1
theorem MapIs.grown {w w' : World} {m : Nat} {ps : List (Int × Value)} {S : Nat → Prop} (h : MapIs w m ps) (hg : Grown w w' S) (hs : ¬ S m) : MapIs w' m ps := by
  have hlt := h.lt
  obtain ⟨es, clock, h1, h2⟩ := h
  exact ⟨es, clock, by rw [hg.block m hlt hs]; exact h1, h2⟩
theorem find_now (k : Int) : ∀ (es : List MapEntry) (ps : List (Int × Value)) (i : Nat), es.map (fun e => (e.key, e.val)) = ps.map (fun p => (Value.int .i64 p.1, p.2)) →
    ∃ r, Instr.findNow (.int .i64) (.int .i64 k) es i = some r ∧ r.map (·.2) = (ps.find? fun p => k == p.1).map (·.2)
  | [], [], i, _ => ⟨none, rfl, rfl⟩
  | [], p :: ps, i, h => by simp at h
  | e :: es, [], i, h => by simp at h
  | e :: es, p :: ps, i, h => by
    simp only [List.map_cons, List.cons.injEq, Prod.mk.injEq] at h
    obtain ⟨⟨h1, h2⟩, h3⟩ := h
    obtain ⟨r, h4, h5⟩ := find_now k es ps (i + 1) h3
    simp only [Instr.findNow, h1, Instr.sameNow, if_true]
    by_cases hk : k = p.1
    · subst hk
      simp only [beq_self_eq_true]
      exact ⟨_, rfl, by simp [h2]⟩
    · have hk' : (k == p.1) = false := by simpa using hk
      simp only [hk', List.find?_cons]
      exact ⟨r, h4, h5⟩
theorem run_findKey (k : Int) (es : List MapEntry) (ps : List (Int × Value)) (h : es.map (fun e => (e.key, e.val)) = ps.map (fun p => (Value.int .i64 p.1, p.2))) (w : World) :
    ∃ r, (Instr.findKey 3 (.int .i64 k) es).run Try.prog w = .ok r w ∧ r.map (·.2) = (ps.find? fun p => k == p.1).map (·.2) := by
  obtain ⟨r, h1, h2⟩ := find_now k es ps 0 h
  refine ⟨r, ?_, h2⟩
  unfold Instr.findKey
  simp only [Sem.run_bind, run_underlying Try.underlying3, Result.andThen_ok, h1, Sem.run_pure]
theorem check_key (b : Bool) (k : Int) (w : World) : (Instr.checkKey b 10000 3 (.int .i64 k)).run Try.prog w = .ok () w := by
  unfold Instr.checkKey
  simp only [Sem.run_bind, run_underlying Try.underlying3, Result.andThen_ok, Sem.run_pure]
theorem run_insert (w : World) (m : Nat) (ps : List (Int × Value)) (k : Int) (v : Value) (h : MapIs w m ps) (hk : ∀ p ∈ ps, p.1 ≠ k) :
    ∃ w', (Instr.mapUpdate 69 (.map (some m)) (.int .i64 k) v).run Try.prog w = .ok () w' ∧ MapIs w' m (ps ++ [(k, v)]) ∧ Grown w w' (fun j => j = m) ∧ w'.heap.size = w.heap.size := by
  have hlt := h.lt
  obtain ⟨es, clock, h1, h2⟩ := h
  obtain ⟨r, h3, h4⟩ := run_findKey k es.toList ps h2 w
  have hn : (ps.find? fun p => k == p.1) = none := by
    rw [List.find?_eq_none]
    intro p hp
    have := hk p hp
    simpa using fun e => this e.symm
  rw [hn] at h4
  obtain rfl : r = none := by cases r <;> simp_all
  refine ⟨ChangeMaps.setBlock w m (.map (es.push ⟨.int .i64 k, v, clock⟩) (clock + 1)), ?_, ⟨_, _, ChangeMaps.heap_setBlock_same h1 _, ?_⟩, ?_, ?_⟩
  · unfold Instr.mapUpdate
    simp only [Sem.run_bind, run_underlying Try.underlying69, Result.andThen_ok, getObj, Sem.run, h1, check_key, h3]
    simp [setObj, Sem.run, h1, ChangeMaps.setBlock]
  · simp [h2]
  · refine ⟨rfl, rfl, rfl, by simp [ChangeMaps.setBlock], fun j hj hne => ?_⟩
    simp only [ChangeMaps.setBlock]
    rw [Array.getElem?_setIfInBounds_ne (fun e => hne e.symm)]
  · simp [ChangeMaps.setBlock]
theorem wpList_ins {ops : Array Oper} {rest : List Oper} {o : Oper} {a : Act} {w : World} {Q : Exit → Act → World → Prop} (hg : o.guard = none) (x y z : Operand) (ho : o.op = .insert 69 x y z)
    (m : Nat) (ps : List (Int × Value)) (k : Int) (v : Value) (hx : a.eval x = .map (some m)) (hy : a.eval y = .int .i64 k) (hz : a.eval z = v) (h : MapIs w m ps) (hk : ∀ p ∈ ps, p.1 ≠ k)
    (hc : ∀ w', MapIs w' m (ps ++ [(k, v)]) → Grown w w' (fun j => j = m) → w'.heap.size = w.heap.size → wpList Try.prog ops Q rest (a.put o.dst undef) w') : wpList Try.prog ops Q (o :: rest) a w := by
  refine wpList_plain hg fun K hK => ?_
  obtain ⟨w', h1, h2, h3, h4⟩ := run_insert w m ps k v h hk
  unfold Oper.wp execOp
  simp only [ho, hx, hy, hz, Sem.run_bind, h1, Result.andThen_ok]
  exact hK _ _ (hc w' h2 h3 h4)
theorem run_look (w : World) (m : Nat) (ps : List (Int × Value)) (k : Int) (h : MapIs w m ps) (ok : Bool) :
    (Instr.lookup 69 (.map (some m)) (.int .i64 k) ok).run Try.prog w = .ok (if ok = true then .tuple #[((ps.find? fun p => k == p.1).map (·.2)).getD (.slice none 0 0), .bool (ps.find? fun p => k == p.1).isSome] else ((ps.find? fun p => k == p.1).map (·.2)).getD (.slice none 0 0)) w := by
  obtain ⟨es, clock, h1, h2⟩ := h
  obtain ⟨r, h3, h4⟩ := run_findKey k es.toList ps h2 w
  have hz : ∀ w : World, (zeroValue 72).run Try.prog w = .ok (.slice none 0 0) w := by intro w; kernel_rfl
  unfold Instr.lookup
  simp only [Sem.run_bind, run_underlying Try.underlying69, Result.andThen_ok, getObj, Sem.run, h1, check_key]
  rw [← h4]
  have h5 : (ps.find? fun p => k == p.1).isSome = r.isSome := by
    have := congrArg Option.isSome h4
    simpa using this.symm
  rw [h5]
  cases r with
  | none => rw [Sem.run_pure, Result.andThen_ok, h3]; simp [hz]
  | some q => rw [Sem.run_pure, Result.andThen_ok, h3]; simp

/-! ### The table of fields. -/
/-- Which fields a kind has. -/
def hasI (k : Int) : List Nat := if k = 1 then [0, 1] else if k = 2 then [0] else if k = 3 then [0, 1] else if k = 4 then [0, 1] else if k = 5 then [0] else if k = 6 then [0, 2] else if k = 7 then [0] else if k = 8 then [0, 1, 3] else if k = 9 then [0, 3] else []
def flatF (is : List Nat) : Array Value := (is.flatMap fun i => (fldA i).toList).toArray
/-- The slice v holds these fields. -/
def FieldsAt (w : World) (v : Value) (is : List Nat) : Prop := (v = .slice none 0 0 ∧ is = []) ∨ ∃ g, v = .slice (some ⟨g, 0, none⟩) is.length is.length ∧ Blk w g 82 (flatF is)
theorem FieldsAt.grown {w w' : World} {v : Value} {is : List Nat} {S : Nat → Prop} (h : FieldsAt w v is) (hg : Grown w w' S) (hs : ∀ g, Blk w g 82 (flatF is) → ¬ S g) : FieldsAt w' v is := by
  rcases h with h | ⟨g, h1, h2⟩
  · exact .inl h
  · exact .inr ⟨g, h1, hg.blk h2 (hs g h2)⟩
/-- Block m is the table. -/
structure TabAt (w : World) (m : Nat) : Prop where
  ex : ∃ V : Int → Value, MapIs w m ([1, 2, 3, 4, 5, 6, 7, 8, 9].map fun k => (k, V k)) ∧ ∀ k ∈ ([1, 2, 3, 4, 5, 6, 7, 8, 9] : List Int), FieldsAt w (V k) (hasI k)
theorem TabAt.lt {w : World} {m : Nat} (h : TabAt w m) : m < w.heap.size := by obtain ⟨V, h1, _⟩ := h.ex; exact h1.lt
/-- No block of cells of a type other than a field's, and not the table: the table stays. -/
theorem TabAt.grown {w w' : World} {m : Nat} {S : Nat → Prop} (h : TabAt w m) (hg : Grown w w' S) (hm : ¬ S m) (hs : ∀ g cs, Blk w g 82 cs → ¬ S g) : TabAt w' m := by
  obtain ⟨V, h1, h2⟩ := h.ex
  exact ⟨V, h1.grown hg hm, fun k hk => (h2 k hk).grown hg fun g hb => hs g _ hb⟩
theorem TabAt.below {w w' : World} {m : Nat} (h : TabAt w m) (hb : Below w.heap.size w w') : TabAt w' m :=
  h.grown (Grown.below (S := fun _ => False) hb) (fun h => h) fun _ _ _ h => h
theorem TabAt.ne {w : World} {m g : Nat} {T : TypeId} {cs : Array Value} (h : TabAt w m) (hg : Blk w g T cs) : m ≠ g := by
  rintro rfl
  obtain ⟨V, ⟨es, clock, h1, _⟩, _⟩ := h.ex
  unfold Blk at hg
  rw [hg] at h1
  cases h1
theorem hasI_none (k : Int) (h : k ∉ ([1, 2, 3, 4, 5, 6, 7, 8, 9] : List Int)) : hasI k = [] := by
  simp only [List.mem_cons, List.not_mem_nil, or_false, not_or] at h
  simp [hasI, h]
theorem hasI_some (k : Int) (h : k ∈ ([1, 2, 3, 4, 5, 6, 7, 8, 9] : List Int)) : hasI k ≠ [] := by
  simp only [List.mem_cons, List.not_mem_nil, or_false] at h
  rcases h with rfl | rfl | rfl | rfl | rfl | rfl | rfl | rfl | rfl <;> simp [hasI]
theorem find_tab (V : Int → Value) (k : Int) : (([1, 2, 3, 4, 5, 6, 7, 8, 9] : List Int).map fun k => (k, V k)).find? (fun p => k == p.1) = if k ∈ ([1, 2, 3, 4, 5, 6, 7, 8, 9] : List Int) then some (k, V k) else none := by
  rw [List.find?_map]
  by_cases h : k ∈ ([1, 2, 3, 4, 5, 6, 7, 8, 9] : List Int)
  · rw [if_pos h]
    have : (([1, 2, 3, 4, 5, 6, 7, 8, 9] : List Int).find? ((fun p : Int × Value => k == p.1) ∘ fun k => (k, V k))) = some k := by
      simp only [List.mem_cons, List.not_mem_nil, or_false] at h
      rcases h with rfl | rfl | rfl | rfl | rfl | rfl | rfl | rfl | rfl <;> rfl
    rw [this]; rfl
  · rw [if_neg h]
    have : (([1, 2, 3, 4, 5, 6, 7, 8, 9] : List Int).find? ((fun p : Int × Value => k == p.1) ∘ fun k => (k, V k))) = none := by
      rw [List.find?_eq_none]
      intro x hx hk
      have e : k = x := by simpa using hk
      exact h (e ▸ hx)
    rw [this]; rfl
/-- A look into the table. -/
theorem TabAt.look {w : World} {m : Nat} (h : TabAt w m) (k : Int) : ∃ v, FieldsAt w v (hasI k) ∧
    (Instr.lookup 69 (.map (some m)) (.int .i64 k) false).run Try.prog w = .ok v w ∧ (Instr.lookup 69 (.map (some m)) (.int .i64 k) true).run Try.prog w = .ok (.tuple #[v, .bool (!(hasI k).isEmpty)]) w := by
  obtain ⟨V, h1, h2⟩ := h.ex
  have h3 := run_look w m _ k h1
  rw [find_tab] at h3
  by_cases hk : k ∈ ([1, 2, 3, 4, 5, 6, 7, 8, 9] : List Int)
  · refine ⟨V k, h2 k hk, by rw [h3, if_pos hk]; rfl, ?_⟩
    have : (hasI k).isEmpty = false := by simpa using hasI_some k hk
    rw [h3, if_pos hk, this]; rfl
  · refine ⟨.slice none 0 0, .inl ⟨rfl, hasI_none k hk⟩, by rw [h3, if_neg hk]; rfl, ?_⟩
    rw [h3, if_neg hk, hasI_none k hk]; rfl
theorem bs1 (w : World) : (Instr.buildSlice 72 2 #[(0, .agg (fldA 0)), (1, .agg (fldA 1))]).run Try.prog w = .ok (.slice (some ⟨w.heap.size, 0, none⟩) 2 2) (w.alloc (.cells (flatF (hasI 1)) 82)) := by kernel_rfl
theorem bs2 (w : World) : (Instr.buildSlice 72 1 #[(0, .agg (fldA 0))]).run Try.prog w = .ok (.slice (some ⟨w.heap.size, 0, none⟩) 1 1) (w.alloc (.cells (flatF (hasI 2)) 82)) := by kernel_rfl
theorem bs3 (w : World) : (Instr.buildSlice 72 2 #[(0, .agg (fldA 0)), (1, .agg (fldA 1))]).run Try.prog w = .ok (.slice (some ⟨w.heap.size, 0, none⟩) 2 2) (w.alloc (.cells (flatF (hasI 3)) 82)) := by kernel_rfl
theorem bs4 (w : World) : (Instr.buildSlice 72 2 #[(0, .agg (fldA 0)), (1, .agg (fldA 1))]).run Try.prog w = .ok (.slice (some ⟨w.heap.size, 0, none⟩) 2 2) (w.alloc (.cells (flatF (hasI 4)) 82)) := by kernel_rfl
theorem bs5 (w : World) : (Instr.buildSlice 72 1 #[(0, .agg (fldA 0))]).run Try.prog w = .ok (.slice (some ⟨w.heap.size, 0, none⟩) 1 1) (w.alloc (.cells (flatF (hasI 5)) 82)) := by kernel_rfl
theorem bs6 (w : World) : (Instr.buildSlice 72 2 #[(0, .agg (fldA 0)), (1, .agg (fldA 2))]).run Try.prog w = .ok (.slice (some ⟨w.heap.size, 0, none⟩) 2 2) (w.alloc (.cells (flatF (hasI 6)) 82)) := by kernel_rfl
theorem bs7 (w : World) : (Instr.buildSlice 72 1 #[(0, .agg (fldA 0))]).run Try.prog w = .ok (.slice (some ⟨w.heap.size, 0, none⟩) 1 1) (w.alloc (.cells (flatF (hasI 7)) 82)) := by kernel_rfl
theorem bs8 (w : World) : (Instr.buildSlice 72 3 #[(0, .agg (fldA 0)), (1, .agg (fldA 1)), (2, .agg (fldA 3))]).run Try.prog w = .ok (.slice (some ⟨w.heap.size, 0, none⟩) 3 3) (w.alloc (.cells (flatF (hasI 8)) 82)) := by kernel_rfl
theorem bs9 (w : World) : (Instr.buildSlice 72 2 #[(0, .agg (fldA 0)), (1, .agg (fldA 3))]).run Try.prog w = .ok (.slice (some ⟨w.heap.size, 0, none⟩) 2 2) (w.alloc (.cells (flatF (hasI 9)) 82)) := by kernel_rfl

/-- The table so far: these kinds are in it; the four fields stand in b to b + 3, the map in b + 4. -/
structure TS (w0 : World) (b : Nat) (V : Int → Value) (ks : List Int) (w : World) : Prop where
  fld : ∀ i, i < 4 → Blk w (b + i) 82 (fldA i)
  map : MapIs w (b + 4) (ks.map fun k => (k, V k))
  has : ∀ k ∈ ks, FieldsAt w (V k) (hasI k)
  lo : w0.heap.size ≤ b
  below : Below w0.heap.size w0 w
theorem TS.sz {w0 : World} {b : Nat} {V : Int → Value} {ks : List Int} {w : World} (h : TS w0 b V ks w) : b + 4 < w.heap.size := h.map.lt
theorem TS.alloc {w0 : World} {b : Nat} {V : Int → Value} {ks : List Int} {w : World} (h : TS w0 b V ks w) (o : Obj) : TS w0 b V ks (w.alloc o) where
  fld i hi := (h.fld i hi).alloc o
  map := h.map.grown (Grown.alloc w o fun _ => False) (fun h => h)
  has k hk := (h.has k hk).grown (Grown.alloc w o fun _ => False) fun _ _ h => h
  lo := h.lo
  below := h.below.trans (Below.mono (below_new w o) h.below.size)
theorem map_blk {w : World} {m g : Nat} {T : TypeId} {cs : Array Value} {ps : List (Int × Value)} (h : MapIs w m ps) (hg : Blk w g T cs) : g ≠ m := by
  rintro rfl
  obtain ⟨es, clock, h1, _⟩ := h
  unfold Blk at hg
  rw [hg] at h1
  cases h1
theorem TS.put {w0 : World} {b : Nat} {V : Int → Value} {ks : List Int} {w w' : World} (h : TS w0 b V ks w) (k : Int) (v : Value) (hk : k ∉ ks) (hv : FieldsAt w v (hasI k)) (hm : MapIs w' (b + 4) ((ks.map fun k => (k, V k)) ++ [(k, v)])) (hg : Grown w w' fun j => j = b + 4) :
    TS w0 b (fun j => if j = k then v else V j) (ks ++ [k]) w' where
  fld i hi := hg.blk (h.fld i hi) (map_blk h.map (h.fld i hi))
  map := by
    have e : (ks ++ [k]).map (fun j => (j, (if j = k then v else V j))) = (ks.map fun k => (k, V k)) ++ [(k, v)] := by
      simp only [List.map_append, List.map_cons, List.map_nil, if_true]
      congr 1
      apply List.map_congr_left
      intro j hj
      have hjk : j ≠ k := fun e => hk (e ▸ hj)
      rw [if_neg hjk]
    rw [e]; exact hm
  has j hj := by
    rcases List.mem_append.1 hj with hj | hj
    · have : j ≠ k := fun e => hk (e ▸ hj)
      rw [if_neg this]
      exact (h.has j hj).grown hg fun g hb e => map_blk h.map hb e
    · simp at hj
      subst hj
      rw [if_pos rfl]
      exact hv.grown hg fun g hb e => map_blk h.map hb e
  lo := h.lo
  below := ⟨hg.os.trans h.below.os, hg.tape.trans h.below.tape, hg.output.trans h.below.output, Nat.le_trans h.below.size hg.size, fun i hi => by
    rw [hg.block i (Nat.lt_of_lt_of_le hi h.below.size) (by have := h.lo; omega)]; exact h.below.block i hi⟩
/-- A slice of fields, made and laid into the table. -/
theorem fields_row (w : World) (k : Int) (n : Nat) (hn : (hasI k).length = n) : FieldsAt (w.alloc (.cells (flatF (hasI k)) 82)) (.slice (some ⟨w.heap.size, 0, none⟩) n n) (hasI k) :=
  .inr ⟨w.heap.size, by rw [hn], Blk.new w 82 _⟩
theorem TS.start {w0 w : World} (b : Nat) (hb : b + 4 = w.heap.size) (hf : ∀ i, i < 4 → Blk w (b + i) 82 (fldA i)) (lo : w0.heap.size ≤ b) (hB : Below w0.heap.size w0 w) : TS w0 b (fun _ => .nilFunc) [] (w.alloc (.map #[] 0)) where
  fld i hi := (hf i hi).alloc _
  map := ⟨#[], 0, by rw [hb]; exact heap_alloc_new w _, rfl⟩
  has k hk := by simp at hk
  lo := lo
  below := hB.trans (Below.mono (below_new w _) hB.size)
theorem TS.fin {w0 : World} {b : Nat} {V : Int → Value} {w : World} (h : TS w0 b V [1, 2, 3, 4, 5, 6, 7, 8, 9] w) : TabAt w (b + 4) := ⟨V, h.map, h.has⟩
theorem Try.newmap (w : World) : (Instr.makeMap 69 none).run Try.prog w = .ok (.map (some w.heap.size)) (w.alloc (.map #[] 0)) := by kernel_rfl
end Go.Proofs.Ytbkboebinhafhaa
