import Derived.Test.YtbkboebinhafhaaOut
namespace Go.Proofs.Ytbkboebinhafhaa
open Go.RowKit

def bytesA (n : Nat) (c : Nat → Int) : Array Value := Array.ofFn (n := n) fun i => .int .u8 (c i.val)
def upd (c : Nat → Int) (t : Nat) (v : Int) : Nat → Int := fun i => if i = t then v else c i
theorem bytesA_size (n : Nat) (c : Nat → Int) : (bytesA n c).size = n := by simp [bytesA]
theorem bytesA_get (n : Nat) (c : Nat → Int) (j : Nat) (h : j < n) : (bytesA n c)[j]? = some (.int .u8 (c j)) := by simp [bytesA, h]
theorem bytesA_set (n : Nat) (c : Nat → Int) (j : Nat) (v : Int) : (bytesA n c).setIfInBounds j (.int .u8 v) = bytesA n (upd c j v) := by
  apply Array.ext_getElem?
  intro i
  rw [Array.getElem?_setIfInBounds]
  by_cases e : j = i
  · subst e
    by_cases hj : j < n <;> simp [bytesA, upd, hj]
  · by_cases hi : i < n <;> simp [bytesA, upd, hi, e, Ne.symm e]
theorem bytesA_one (n : Nat) (c : Nat → Int) : (bytesA n c).all (·.oneCell') = true := by
  rw [Array.all_eq_true_iff_forall_mem]; intro v hv; simp [bytesA] at hv; obtain ⟨i, rfl⟩ := hv; rfl
theorem bytesA_sizes (n : Nat) (c d : Nat → Int) : (bytesA n c).size = (bytesA n d).size := by rw [bytesA_size, bytesA_size]
theorem bytesA_congr {n : Nat} {c d : Nat → Int} (h : ∀ i, i < n → c i = d i) : bytesA n c = bytesA n d := by
  apply Array.ext_getElem?
  intro i
  by_cases hi : i < n
  · rw [bytesA_get _ _ _ hi, bytesA_get _ _ _ hi, h i hi]
  · rw [Array.getElem?_eq_none (by rw [bytesA_size]; omega), Array.getElem?_eq_none (by rw [bytesA_size]; omega)]
/-- The first n bytes as a list. -/
def hl (n : Nat) (c : Nat → Int) : List Int := (List.range n).map c
theorem hl_len (n : Nat) (c : Nat → Int) : (hl n c).length = n := by simp [hl]
theorem hl_get (n : Nat) (c : Nat → Int) (i : Nat) (h : i < n) : (hl n c).getD i 0 = c i := by simp [hl, List.getD_eq_getElem?_getD, h]
theorem hl_bytesA (n : Nat) (c : Nat → Int) : (bytesA n c).toList = bv (hl n c) := by
  apply List.ext_getElem?
  intro i
  rw [Array.getElem?_toList]
  by_cases h : i < n
  · rw [bytesA_get _ _ _ h, bv_get _ _ (by rw [hl_len]; exact h), hl_get _ _ _ h]
  · rw [Array.getElem?_eq_none (by rw [bytesA_size]; omega), List.getElem?_eq_none (by rw [bv_len, hl_len]; omega)]

theorem Try.size29 : (Try.prog.info? 29).map (·.size) = some 32 := by kernel_rfl
theorem Try.size29B (c : Nat → Int) : (Try.prog.info? 29).map (·.size) = some (bytesA 32 c).size := by rw [bytesA_size]; exact Try.size29
theorem run_box_agg {P : Program} (w : World) (t : TypeId) (cs : Array Value) : (Instr.box t (.agg cs)).run P w = .ok (.pointer (some ⟨w.heap.size, 0, none⟩)) (w.alloc (.cells cs t)) := rfl
/-- A value boxed whole. -/
theorem wpList_boxA {P : Program} {ops : Array Oper} {rest : List Oper} {o : Oper} {a : Act} {w : World} {Q : Exit → Act → World → Prop} (hg : o.guard = none) (t : TypeId) (x : Operand) (ho : o.op = .box t x)
    (cs : Array Value) (hx : a.eval x = .agg cs)
    (h : wpList P ops Q rest (a.put o.dst (.pointer (some ⟨w.heap.size, 0, none⟩))) (w.alloc (.cells cs t))) : wpList P ops Q (o :: rest) a w := by
  refine wpList_plain hg fun K hK => ?_
  unfold Oper.wp execOp
  simp only [ho, hx, Sem.run_bind, run_box_agg, Result.andThen_ok]
  exact hK _ _ h
theorem row_arr {w : World} {g : Nat} {T : TypeId} {n : Nat} {c : Nat → Int} (h : Blk w g T (bytesA n c)) : RowAt w (.slice (some ⟨g, 0, none⟩) n n) (hl n c) := by
  refine .inr (.inr ⟨g, 0, n, by rw [hl_len], by rw [hl_len]; exact Nat.le_refl _, fun i hi => ?_⟩)
  rw [hl_len] at hi
  rw [Nat.zero_add, h.cell, bytesA_get _ _ _ hi, hl_get _ _ _ hi]

set_option maxRecDepth 8000 in
set_option maxHeartbeats 400000 in
theorem ohash_any (p : Nat) (v : Value) (l : List Int) (c : Nat → Int) (w : World) (h : OutAt w p v l) (hb : l.length + 32 ≤ 200000000000000) :
    Calls Try.prog 85 #[ptr p, .agg (bytesA 32 c)] w (OutPost p v (l ++ hl 32 c) w) := by
  have HO : Keep (OutAt (w.alloc (.cells (bytesA 32 c) 29)) p v l) := ⟨h.box _⟩
  have HR : Keep (RowAt (w.alloc (.cells (bytesA 32 c) 29)) (.slice (some ⟨w.heap.size, 0, none⟩) 32 32) (hl 32 c)) := ⟨row_arr (Blk.new w 29 (bytesA 32 c))⟩
  clear h
  go_enter Try.func85, Try.ntmps85
  go_wp2_with (first | (refine wpList_boxA rfl 29 (.tmp 1) rfl (bytesA 32 c) rfl ?_; refine Hid.out ?_))
  refine hid_in ?_
  go_wp2_with fail
  refine (oraw_any p v _ l (hl 32 c) _ HO.out HR.out (by rw [List.length_append, hl_len]; exact hb)).mono ?_
  intro e w1 hpost
  have hpost2 := hpost.box
  obtain ⟨rfl, hrest⟩ := hpost2
  have HP := Keep.mk hrest
  clear hpost hrest
  go_wp2
  go_end0
  exact ⟨rfl, HP.out⟩

theorem made_bytes (n : Nat) : madeCells #[.int .u8 0] n = bytesA n fun _ => 0 := by
  apply Array.ext_getElem?
  intro i
  by_cases h : i < n <;> simp [madeCells, bytesA, h, Nat.mod_one]
theorem run_makeB (l c : Nat) (hlc : l ≤ c) (hc : c ≤ 281474976710656) (w : World) : (Instr.makeSlice 36 (.int .i64 (l : Int)) (.int .i64 (c : Int))).run Try.prog w = .ok (.slice (some ⟨w.heap.size, 0, none⟩) l c) (w.alloc (.cells (bytesA c fun _ => 0) 5)) := by
  obtain ⟨i, hi, hzz⟩ := Option.map_eq_some_iff.1 Try.info5
  simp only [Prod.mk.injEq] at hzz
  obtain ⟨hz, hs, hb⟩ := hzz
  have hr := run_make (P := Try.prog) w 36 5 i (.int .u8 0) Try.underlying36 hi hz .i64 .i64 (l : Int) (c : Int) (by omega) (by omega) (by rw [hb]; omega) (by omega)
  simp only [Int.toNat_natCast, hs, Nat.mul_one, Value.cells] at hr
  rw [made_bytes] at hr
  exact hr
theorem wpList_makeB {ops : Array Oper} {rest : List Oper} {o : Oper} {a : Act} {w : World} {Q : Exit → Act → World → Prop} (hgd : o.guard = none) (x y : Operand) (ho : o.op = .makeSlice 36 x y) (l c : Nat) (hlc : l ≤ c) (hc : c ≤ 281474976710656)
    (hx : a.eval x = .int .i64 (l : Int)) (hy : a.eval y = .int .i64 (c : Int))
    (h : wpList Try.prog ops Q rest (a.put o.dst (.slice (some ⟨w.heap.size, 0, none⟩) l c)) (w.alloc (.cells (bytesA c fun _ => 0) 5))) : wpList Try.prog ops Q (o :: rest) a w := by
  refine wpList_plain hgd fun K hK => ?_
  have hrun := run_makeB l c hlc hc w
  unfold Oper.wp
  simp only [execOp, ho, hx, hy, Sem.run_bind, hrun, Result.andThen_ok]
  exact hK _ _ h
/-- copy of bytes over a whole block. -/
theorem run_copyB (w : World) (g cap : Nat) (v : Value) (m : List Int) (ty T : TypeId) (cur : Array Value) (hg : Blk w g T cur) (hs : cur.size = m.length) (hr : RowAt w v m) :
    (Builtin.copy_ #[36, 36] ty #[.slice (some ⟨g, 0, none⟩) m.length cap, v]).run Try.prog w = .ok (goInt m.length) (w.setRow g (bv m).toArray) := by
  have hst := run_storeCells_at Try.prog g 0 T (bv m) 0 cur w hg (by rw [bv_len]; omega) (bv_one m)
  have hcur : (cur.toList.take (0 + 0) ++ bv m ++ cur.toList.drop (0 + 0 + (bv m).length)).toArray = (bv m).toArray := by
    rw [bv_len, List.drop_of_length_le (by rw [Array.length_toList]; omega)]; simp
  rw [hcur] at hst
  obtain ⟨i, hi, hzz⟩ := Option.map_eq_some_iff.1 Try.info5
  simp only [Prod.mk.injEq] at hzz
  obtain ⟨_, hsz, _⟩ := hzz
  rcases hr with ⟨rfl, rfl⟩ | ⟨ad, c, rfl, rfl⟩ | ⟨b, off, cap2, rfl, _, hc⟩
  · simp only [bv, List.map_nil] at hst ⊢
    simp [Builtin.copy_, run_underlying Try.underlying36, Builtin.lenOf, Builtin.firstCells, sizeOf, typeInfo, hi, hst]
  · simp only [bv, List.map_nil] at hst ⊢
    simp [Builtin.copy_, run_underlying Try.underlying36, Builtin.lenOf, Builtin.firstCells, sizeOf, typeInfo, hi, loadCells, loadCellsFrom, hst]
  · have hl := run_loadCells_list (P := Try.prog) w ⟨b, off, none⟩ (bv m) (fun j v hv => by
      have hj : j < m.length := by have := (List.getElem?_eq_some_iff.1 hv).1; rwa [bv_len] at this
      rw [bv_get m j hj] at hv
      rw [Addr.add_mid, hc j hj]; exact hv)
    rw [bv_len] at hl
    simp [Builtin.copy_, run_underlying Try.underlying36, Builtin.lenOf, Builtin.firstCells, sizeOf, typeInfo, hi, hsz, hl, hst]
theorem wpList_copyB {ops : Array Oper} {rest : List Oper} {o : Oper} {a : Act} {w : World} {Q : Exit → Act → World → Prop} (hgd : o.guard = none) (d s : Operand)
    (ho : o.op = .call { callee := .builtin .copy, args := #[d, s], argTypes := #[36, 36] }) (g cap : Nat) (v : Value) (m : List Int) (T : TypeId) (cur : Array Value)
    (hd : a.eval d = .slice (some ⟨g, 0, none⟩) m.length cap) (hs : a.eval s = v) (hg : Blk w g T cur) (hsz : cur.size = m.length) (hr : RowAt w v m)
    (h : wpList Try.prog ops Q rest (a.put o.dst (goInt m.length)) (w.setRow g (bv m).toArray)) : wpList Try.prog ops Q (o :: rest) a w := by
  refine wpList_plain hgd fun K hK => ?_
  have hrun := run_copyB w g cap v m o.type T cur hg hsz hr
  unfold Oper.wp
  simp only [execOp, ho, resolve, invoke, builtin, List.map_toArray, List.map_cons, List.map_nil, hd, hs, Sem.run_bind, Sem.run_pure, hrun, Result.andThen_ok]
  exact hK _ _ h

set_option maxRecDepth 8000 in
set_option maxHeartbeats 400000 in
theorem odone_any (p : Nat) (v : Value) (l : List Int) (w : World) (h : OutAt w p v l) (hb : l.length ≤ 200000000000000) :
    Calls Try.prog 20 #[ptr p] w fun e w' => e = .returned (.slice (some ⟨w.heap.size, 0, none⟩) l.length l.length) ∧ w' = w.alloc (.cells (bv l).toArray 5) := by
  have HO : Keep (OutAt (w.alloc (.cells (bytesA l.length fun _ => 0) 5)) p v l) := ⟨h.box _⟩
  have HB : Keep (l.length ≤ 281474976710656) := ⟨by omega⟩
  obtain ⟨a, c, rfl⟩ := row_form h.own.row
  have c0 : w.cell? ⟨p, 0, none⟩ = some (.slice a l.length c) := by rw [h.blk.cell]; rfl
  clear h hb
  go_enter Try.func20, Try.ntmps20
  go_wp2_with (first | (refine wpList_makeB rfl (.tmp 8) (.tmp 8) rfl l.length l.length (Nat.le_refl _) HB.out rfl rfl ?_; refine Hid.out ?_))
  refine hid_in ?_
  have hg := Keep.mk (Blk.new w 5 (bytesA l.length fun _ => 0))
  obtain ⟨w1, hw1⟩ : ∃ w1, Keep (w1 = w.alloc (.cells (bytesA l.length fun _ => 0) 5)) := ⟨_, ⟨rfl⟩⟩
  rw [← hw1.out] at hg HO ⊢
  have c1 : w1.cell? ⟨p, 0, none⟩ = some (.slice a l.length c) := by rw [HO.out.blk.cell]; rfl
  clear c0
  have hcp := run_copyB w1 w.heap.size l.length (.slice a l.length c) l 3 5 (bytesA l.length fun _ => 0) hg.out (bytesA_size _ _) HO.out.own.row
  go_wp2
  go_ret
  refine ⟨rfl, ?_⟩
  rw [hw1.out]
  exact World.setRow_alloc_new _ _ _ _
/-- What Done answers. -/
theorem own_done (w : World) (l : List Int) (hb : l.length ≤ 200000000000000) : Own (w.alloc (.cells (bv l).toArray 5)) (.slice (some ⟨w.heap.size, 0, none⟩) l.length l.length) l :=
  Own.mk (Blk.new w 5 _) (Nat.le_refl _) (by unfold maxLen; omega) (by simp [bv_len]) (by simp [← bv_len])
end Go.Proofs.Ytbkboebinhafhaa
