import Derived.Test.YtfheinghkigocaaF01
import Derived.Test.YtfheinghkigocaaF02
import Derived.Laws.CopyOwn
import Derived.Laws.AppendOwnNone
import Derived.Lib.EndianBits
import Derived.Test.YtfheinghkigocaaChecked
import Derived.WalkKit
import Derived.Lib.BitFns
namespace Go.Proofs.Ytfheinghkigocaa
open Go.RowKit

abbrev Hs := Vector UInt8 32

namespace Hs
def f (h : Hs) (i : Nat) : Int := ((h.toArray.getD i 0).toNat : Int)
theorem bnd (h : Hs) (i : Nat) (_ : i < 32) : 0 ≤ h.f i ∧ h.f i < 256 := by
  unfold f
  have := (h.toArray.getD i 0).toNat_lt
  omega
theorem f_get (h : Hs) (i : Nat) (hi : i < 32) : h.f i = ((h[i]'hi).toNat : Int) := by
  unfold f
  rw [Array.getD_eq_getD_getElem?, Array.getElem?_eq_getElem (by rw [h.size_toArray]; exact hi)]
  rfl
theorem ext' {a b : Hs} (h : ∀ i, i < 32 → a.f i = b.f i) : a = b := by
  apply Vector.ext
  intro i hi
  have h1 := h i hi
  rw [f_get a i hi, f_get b i hi] at h1
  exact UInt8.toNat_inj.1 (by omega)
def mk' (c : Nat → Int) (_ : ∀ i, i < 32 → 0 ≤ c i ∧ c i < 256) : Hs := Vector.ofFn fun i : Fin 32 => UInt8.ofNat (c i.val).toNat
theorem mk'_f (c : Nat → Int) (hc : ∀ i, i < 32 → 0 ≤ c i ∧ c i < 256) (i : Nat) (hi : i < 32) : (mk' c hc).f i = c i := by
  rw [f_get _ i hi]
  unfold mk'
  rw [Vector.getElem_ofFn, UInt8.toNat_ofNat']
  have := hc i hi
  show (((c i).toNat % 2 ^ 8 : Nat) : Int) = c i
  omega
theorem default_f (i : Nat) (hi : i < 32) : (default : Hs).f i = 0 := by
  rw [f_get _ i hi]
  have : (default : Hs)[i]'hi = 0 := by
    have : ∀ k : Fin 32, (default : Hs)[k.val]'k.isLt = 0 := by decide +kernel
    exact this ⟨i, hi⟩
  rw [this]; rfl
end Hs
theorem run_items2 (c e : Nat → Int) (d : Nat) (w : World) : ∀ is : List Nat, (∀ i ∈ is, i < 32) → (Op.eqItems (d + 1) 5 1 (bytesA 32 c) (bytesA 32 e) is).run Try.prog w = .ok (is.all fun i => c i == e i) w
  | [], _ => by simp [Op.eqItems]
  | i :: is, h => by
    have hi := h i (by simp)
    have ih := run_items2 c e d w is (fun j hj => h j (by simp [hj]))
    simp only [Op.eqItems, Sem.run_bind, Nat.mul_one, run_part5 c i hi, run_part5 e i hi, Result.andThen_ok]
    rw [run_equalIn_int (P := Try.prog) (w := w) d 5 .u8 .u8 (c i) (e i) Try.underlying5]
    by_cases hh : c i = e i
    · simp [Result.andThen_ok, ih, hh]
    · simp [Result.andThen_ok, hh]
theorem run_equal_arr2 (c e : Nat → Int) (w : World) : (Op.equalIn 10000 27 (.agg (bytesA 32 c)) (.agg (bytesA 32 e))).run Try.prog w = .ok ((List.range 32).all fun i => c i == e i) w := by
  obtain ⟨i, hi, _⟩ := Option.map_eq_some_iff.1 Try.size5
  rw [run_equalIn_array (P := Try.prog) w 9999 _ _ Try.underlying27 hi, Try.cells5]
  exact run_items2 c e 9998 w _ (fun j hj => List.mem_range.1 hj)
theorem all_eq_iff (x y : Hs) : ((List.range 32).all fun i => x.f i == y.f i) = decide (x = y) := by
  by_cases h : x = y
  · subst h; simp
  · rw [decide_eq_false h, Bool.eq_false_iff]
    intro h2
    refine h (Hs.ext' fun i hi => ?_)
    have := List.all_eq_true.1 h2 i (List.mem_range.2 hi)
    simpa using this
theorem run_eqlH (x y : Hs) (w : World) : (binOp .eql 27 (.agg (bytesA 32 x.f)) (.agg (bytesA 32 y.f))).run Try.prog w = .ok (.bool (decide (x = y))) w := by
  rw [run_eql_struct, run_equal_arr2, all_eq_iff]; rfl
theorem run_neqH (x y : Hs) (w : World) : (binOp .neq 27 (.agg (bytesA 32 x.f)) (.agg (bytesA 32 y.f))).run Try.prog w = .ok (.bool (!decide (x = y))) w := by
  rw [run_neq_struct, run_equal_arr2, all_eq_iff]; rfl

/-- A hash's cells. -/
def encH (h : Hs) : List Value := (bytesA 32 h.f).toList
theorem encH_len (h : Hs) : (encH h).length = 32 := by rw [encH, Array.length_toList, bytesA_size]
theorem encH_get (h : Hs) (j : Nat) (hj : j < 32) : (encH h)[j]? = some (.int .u8 (h.f j)) := by rw [encH, Array.getElem?_toList, bytesA_get _ _ _ hj]
theorem encH_one (h : Hs) (v : Value) (hv : v ∈ encH h) : v.oneCell' = true := by
  have := Array.all_eq_true'.1 (bytesA_one 32 h.f) v (by unfold encH at hv; exact Array.mem_toList_iff.1 hv)
  simpa using this
theorem encH_arr (h : Hs) : (encH h).toArray = bytesA 32 h.f := by rw [encH, Array.toArray_toList]
/-- The cells of hashes, one behind the other. -/
def flatH (L : List Hs) : List Value := L.flatMap encH
theorem flatH_nil : flatH [] = [] := rfl
theorem flatH_cons (x : Hs) (L : List Hs) : flatH (x :: L) = encH x ++ flatH L := rfl
theorem flatH_app (L M : List Hs) : flatH (L ++ M) = flatH L ++ flatH M := by simp [flatH]
theorem flatH_len : ∀ L : List Hs, (flatH L).length = L.length * 32
  | [] => rfl
  | x :: L => by rw [flatH_cons, List.length_append, encH_len, flatH_len L, List.length_cons]; omega
theorem flatH_get : ∀ (L : List Hs) (i : Nat) (hi : i < L.length) (j : Nat), j < 32 → (flatH L)[i * 32 + j]? = (encH L[i])[j]?
  | x :: L, 0, _, j, hj => by rw [flatH_cons, List.getElem?_append_left (by rw [encH_len]; omega)]; simp
  | x :: L, i + 1, hi, j, hj => by
    rw [flatH_cons, List.getElem?_append_right (by rw [encH_len]; omega), encH_len, show (i + 1) * 32 + j - 32 = i * 32 + j by omega]
    simpa using flatH_get L i (by simpa using hi) j hj
theorem flatH_one (L : List Hs) (v : Value) (hv : v ∈ flatH L) : v.oneCell' = true := by
  obtain ⟨x, _, hx⟩ := List.mem_flatMap.1 hv
  exact encH_one x v hx

/-- A slice of hashes: what it holds. -/
def HRow (w : World) (v : Value) (L : List Hs) : Prop :=
  (∃ a c, v = .slice a 0 c ∧ L = [] ∧ (a = none → c = 0)) ∨ ∃ b off cap, v = .slice (some ⟨b, off, none⟩) L.length cap ∧ L.length ≤ cap ∧ w.rangeAt b off (flatH L)
theorem rangeAt_elem {w : World} {b off : Nat} {L : List Hs} (h : w.rangeAt b off (flatH L)) (i : Nat) (hi : i < L.length) : w.rangeAt b (off + i * 32) (encH L[i]) := by
  intro j v hv
  have hj : j < 32 := by
    have := (List.getElem?_eq_some_iff.1 hv).1
    rwa [encH_len] at this
  rw [Nat.add_assoc]
  exact h _ v (by rw [flatH_get L i hi j hj]; exact hv)
theorem HRow.form {w : World} {v : Value} {L : List Hs} (h : HRow w v L) : ∃ a c, v = .slice a L.length c := by
  rcases h with ⟨a, c, rfl, rfl, _⟩ | ⟨b, off, cap, rfl, _⟩
  · exact ⟨a, c, rfl⟩
  · exact ⟨_, cap, rfl⟩
theorem HRow.at {w : World} {a : Option Addr} {n c : Nat} {L : List Hs} (h : HRow w (.slice a n c) L) (hL : 0 < L.length) : ∃ b off, a = some ⟨b, off, none⟩ ∧ n = L.length ∧ L.length ≤ c ∧ w.rangeAt b off (flatH L) := by
  rcases h with ⟨_, _, _, rfl, _⟩ | ⟨b, off, cap, h1, h2, h3⟩
  · simp at hL
  · injection h1 with h1 h4 h5
    subst h1 h4 h5
    exact ⟨b, off, rfl, rfl, h2, h3⟩
theorem rangeAt_lt {w : World} {b off : Nat} {L : List Hs} (h : w.rangeAt b off (flatH L)) (hL : 0 < L.length) : b < w.heap.size := by
  have := h 0 (.int .u8 (L[0].f 0)) ((flatH_get L 0 hL 0 (by omega)).trans (encH_get _ _ (by omega)))
  exact cell_lt this
theorem rangeAt_below {w w' : World} {B b off : Nat} {cs : List Value} (h : w.rangeAt b off cs) (hb : Below B w w') (hlt : b < B) : w'.rangeAt b off cs := fun j v hv => by
  rw [hb.cell (p := ⟨b, off + j, none⟩) hlt]; exact h j v hv
theorem HRow.below {w w' : World} {v : Value} {L : List Hs} (h : HRow w v L) (hb : Below w.heap.size w w') : HRow w' v L := by
  rcases h with h | ⟨b, off, cap, h1, h2, h3⟩
  · exact .inl h
  · by_cases hL : 0 < L.length
    · exact .inr ⟨b, off, cap, h1, h2, rangeAt_below h3 hb (rangeAt_lt h3 hL)⟩
    · have : L = [] := List.eq_nil_of_length_eq_zero (by omega)
      subst this
      exact .inl ⟨_, _, h1, rfl, fun h => by cases h⟩
theorem HRow.of_owns {w : World} {base n : Nat} {v : Value} {L : List Hs} (h : w.ownsRow base 27 32 v n (flatH L)) : HRow w v L := by
  have hn : n = L.length := by have := h.1; rw [flatH_len] at this; omega
  subst hn
  rcases h.2 with ⟨rfl, h0⟩ | ⟨g, cap, cur, rfl, _, hg, hc, _, _, ht⟩
  · exact .inl ⟨none, 0, rfl, List.eq_nil_of_length_eq_zero h0, fun _ => rfl⟩
  · refine .inr ⟨g, 0, cap, rfl, hc, fun j v hv => ?_⟩
    rw [Nat.zero_add, cell_of_row w g j cur 27 (0, 0) hg]
    rw [← ht, List.getElem?_take] at hv
    split at hv
    · rwa [Array.getElem?_toList] at hv
    · cases hv
theorem Try.size27L (h : Hs) : (Try.prog.info? 27).map (·.size) = some (encH h).length := by rw [encH_len]; exact Try.size27

theorem run_neqL (x y : Hs) (w : World) : (binOp .neq 27 (.agg (encH x).toArray) (.agg (encH y).toArray)).run Try.prog w = .ok (.bool (!decide (x = y))) w := by
  rw [encH_arr, encH_arr]; exact run_neqH x y w
theorem run_eqlL (x y : Hs) (w : World) : (binOp .eql 27 (.agg (encH x).toArray) (.agg (encH y).toArray)).run Try.prog w = .ok (.bool (decide (x = y))) w := by
  rw [encH_arr, encH_arr]; exact run_eqlH x y w
theorem rangeAt_drewN {w : World} {b o n : Nat} {cs : List Value} (h : w.rangeAt b o cs) : (w.drewN n).rangeAt b o cs := h
theorem rangeAt_drew {w : World} {b o : Nat} {cs : List Value} (h : w.rangeAt b o cs) : w.drew.rangeAt b o cs := h

theorem Try.info27 : (Try.prog.info? 27).map (fun i => (i.zero, i.size, i.bytes)) = some (some (.agg (bytesA 32 fun _ => 0)), 32, 32) := by kernel_rfl
theorem Try.bs0 (w : World) : (Instr.buildSlice 32 0 #[]).run Try.prog w = .ok (.slice (some ⟨w.heap.size, 0, none⟩) 0 0) (w.alloc (.cells #[] 27)) := by kernel_rfl
theorem Try.bs1 (c : Nat → Int) (w : World) : (Instr.buildSlice 32 1 #[(0, .agg (bytesA 32 c))]).run Try.prog w = .ok (.slice (some ⟨w.heap.size, 0, none⟩) 1 1) (w.alloc (.cells (bytesA 32 c) 27)) := by kernel_rfl

/-- A literal of hashes. -/
theorem wpList_bs {P : Program} {ops : Array Oper} {rest : List Oper} {o : Oper} {a : Act} {w : World} {Q : Exit → Act → World → Prop} (hg : o.guard = none) (t : TypeId) (n : Nat) (parts : Array (Nat × Operand)) (ho : o.op = .buildSlice t n parts)
    (vs : Array (Nat × Value)) (hv : (parts.map fun (i, x) => (i, a.eval x)) = vs) (v : Value) (w' : World) (hrun : (Instr.buildSlice t n vs).run P w = .ok v w')
    (h : wpList P ops Q rest (a.put o.dst v) w') : wpList P ops Q (o :: rest) a w := by
  refine wpList_plain hg fun K hK => ?_
  unfold Oper.wp execOp
  simp only [ho, hv, Sem.run_bind, hrun, Result.andThen_ok]
  exact hK _ _ h

theorem ownsH_nil (w : World) (base : Nat) : w.ownsRow base 27 32 (.slice none 0 0) 0 (flatH []) := ⟨rfl, .inl ⟨rfl, rfl⟩⟩
theorem ownsH_block {w : World} {base : Nat} {v : Value} {n : Nat} {xs : List Value} (h : w.ownsRow base 27 32 v n xs) : ∀ k, v.ownBlock = some k → base ≤ k := by
  intro k hk
  obtain ⟨_, h2⟩ := h
  rcases h2 with ⟨rfl, _⟩ | ⟨g, cap, cur, rfl, hg, _⟩
  · simp [Value.ownBlock] at hk
  · simp [Value.ownBlock] at hk; omega

/-- A row of hashes behind hashes of the call's own. -/
theorem wpList_appH {ops : Array Oper} {rest : List Oper} {o : Oper} {a : Act} {w : World} {Q : Exit → Act → World → Prop} (hgd : o.guard = none) (s x : Operand)
    (ho : o.op = .call { callee := .builtin .append, args := #[s, x], argTypes := #[32, 32] }) (base : Nat) (v vx : Value) (L M : List Hs)
    (hs : a.eval s = v) (hx : a.eval x = vx) (hown : w.ownsRow base 27 32 v L.length (flatH L)) (hrow : HRow w vx M) (hb : L.length + M.length ≤ 4398046511104) (hbase : base ≤ w.heap.size)
    (h : ∀ v' w', w'.ownsRow base 27 32 v' (L ++ M).length (flatH (L ++ M)) → w.grownBy w' v.ownBlock → wpList Try.prog ops Q rest (a.put o.dst v') w') : wpList Try.prog ops Q (o :: rest) a w := by
  obtain ⟨i, hi, hzz⟩ := Option.map_eq_some_iff.1 Try.info27
  simp only [Prod.mk.injEq] at hzz
  obtain ⟨hz, hsz, hby⟩ := hzz
  have hzs : (Value.agg (bytesA 32 fun _ => 0)).cells.size = 32 := by show (bytesA 32 fun _ => 0).size = 32; exact bytesA_size _ _
  rw [flatH_app, List.length_append] at h
  rcases hrow with ⟨ad, c, rfl, rfl, hac⟩ | ⟨b, off, cap, rfl, hcap, hc⟩
  · cases ad with
    | none =>
      obtain rfl := hac rfl
      refine wpList_append_own_none hgd s x 32 ho base 27 i 32 Try.underlying32 hi v L.length _ hs hown hx (h v w ?_ (World.grownBy.refl w _))
      simpa [flatH_nil] using hown
    | some ad =>
      refine wpList_append_own w hgd s x 32 ho base 27 i _ 32 32 Try.underlying32 hi hz hsz hby hzs (by omega) v L.length _ hs hown ad 0 c [] hx rfl (fun j u hu => by simp at hu) (fun u hu => by simp at hu) (by unfold maxLen; simp at hb; omega) (by simp at hb; omega) hbase ?_
      intro v' w' h1 h2 _
      exact h v' w' h1 h2
  · refine wpList_append_own w hgd s x 32 ho base 27 i _ 32 32 Try.underlying32 hi hz hsz hby hzs (by omega) v L.length _ hs hown ⟨b, off, none⟩ M.length cap (flatH M) hx (flatH_len M)
      (fun j u hu => by rw [Addr.add_mid]; exact hc j u hu) (flatH_one M) (by unfold maxLen; omega) (by omega) hbase ?_
    intro v' w' h1 h2 _
    exact h v' w' h1 h2
theorem rangeAt_take {w : World} {b off : Nat} {L : List Hs} (h : w.rangeAt b off (flatH L)) (k : Nat) : w.rangeAt b off (flatH (L.take k)) := fun j v hv => by
  refine h j v ?_
  conv => lhs; rw [← List.take_append_drop k L, flatH_app]
  rw [List.getElem?_append_left (List.getElem?_eq_some_iff.1 hv).1]; exact hv
theorem rangeAt_drop {w : World} {b off : Nat} {L : List Hs} (h : w.rangeAt b off (flatH L)) (k : Nat) (hk : k ≤ L.length) : w.rangeAt b (off + k * 32) (flatH (L.drop k)) := fun j v hv => by
  rw [Nat.add_assoc]
  refine h (k * 32 + j) v ?_
  conv => lhs; rw [← List.take_append_drop k L, flatH_app]
  have hl : (flatH (L.take k)).length = k * 32 := by rw [flatH_len, List.length_take, Nat.min_eq_left hk]
  rw [List.getElem?_append_right (by rw [hl]; omega), hl, show k * 32 + j - k * 32 = j by omega]; exact hv

theorem ownsH_mono {w : World} {base base' n : Nat} {v : Value} {xs : List Value} (h : w.ownsRow base 27 32 v n xs) (hb : base' ≤ base) : w.ownsRow base' 27 32 v n xs := by
  refine ⟨h.1, ?_⟩
  rcases h.2 with h2 | ⟨g, cap, cur, h1, h3, h4⟩
  · exact .inl h2
  · exact .inr ⟨g, cap, cur, h1, by omega, h4⟩
theorem ownsH_below {w w' : World} {base n : Nat} {v : Value} {xs : List Value} (h : w.ownsRow base 27 32 v n xs) (hb : Below w.heap.size w w') : w'.ownsRow base 27 32 v n xs := by
  refine ⟨h.1, ?_⟩
  rcases h.2 with h2 | ⟨g, cap, cur, h1, h3, h4, h5⟩
  · exact .inl h2
  · exact .inr ⟨g, cap, cur, h1, h3, by rw [hb.block g (Array.getElem?_eq_some_iff.1 h4).1]; exact h4, h5⟩
theorem HRow.mk {w : World} {b off n c : Nat} {L : List Hs} (hn : n = L.length) (hc : n ≤ c) (h : w.rangeAt b off (flatH L)) : HRow w (.slice (some ⟨b, off, none⟩) n c) L := by
  subst hn
  exact .inr ⟨b, off, c, rfl, hc, h⟩
theorem flatH_take : ∀ (L : List Hs) (k : Nat), (flatH L).take (k * 32) = flatH (L.take k)
  | _, 0 => by simp [flatH_nil]
  | [], k + 1 => by simp [flatH_nil]
  | x :: L, k + 1 => by
    rw [flatH_cons, List.take_succ_cons, flatH_cons, ← flatH_take L k, List.take_append, encH_len, List.take_of_length_le (by rw [encH_len]; omega), show (k + 1) * 32 - 32 = k * 32 by omega]
theorem flatH_drop : ∀ (L : List Hs) (k : Nat), (flatH L).drop (k * 32) = flatH (L.drop k)
  | _, 0 => by simp
  | [], k + 1 => by simp [flatH_nil]
  | x :: L, k + 1 => by
    rw [flatH_cons, List.drop_succ_cons, ← flatH_drop L k, List.drop_append, encH_len, List.drop_of_length_le (by rw [encH_len]; omega), show (k + 1) * 32 - 32 = k * 32 by omega]
    rfl
theorem flatH_arr_size (L : List Hs) : (flatH L).toArray.size = L.length * 32 := by rw [List.size_toArray, flatH_len]
theorem zeroCellsH (n : Nat) : (Builtin.zeroCells (bytesA 32 fun _ => 0) n).toList = flatH (List.replicate n default) := by
  unfold Builtin.zeroCells
  rw [bytesA_size]
  apply List.ext_getElem?
  intro t
  by_cases ht : t < n * 32
  · have h1 := flatH_get (List.replicate n default) (t / 32) (by simp; omega) (t % 32) (by omega)
    rw [show t / 32 * 32 + t % 32 = t by omega, encH_get _ _ (by omega)] at h1
    rw [h1]
    have h2 : t % 32 < 32 := by omega
    have h3 : (bytesA 32 fun _ => 0)[t % 32]! = Value.int .u8 0 := by
      rw [getElem!_pos _ _ (by rw [bytesA_size]; exact h2)]
      have := bytesA_get 32 (fun _ => 0) (t % 32) h2
      rw [Array.getElem?_eq_getElem (by rw [bytesA_size]; exact h2)] at this
      exact Option.some.inj this
    have h4 : (default : Hs).f (t % 32) = 0 := Hs.default_f _ h2
    simp only [Array.toList_map, Array.toList_range, List.getElem?_map, List.getElem?_range ht, Option.map_some, h3, List.getElem_replicate, h4]
  · rw [List.getElem?_eq_none (by simp; omega), List.getElem?_eq_none (by rw [flatH_len]; simp; omega)]

/-- copy of hashes over a whole block. -/
theorem run_copyH (w : World) (g cap : Nat) (v : Value) (D : List Hs) (ty : TypeId) (cur : Array Value) (hg : Blk w g 27 cur) (hs : cur.size = D.length * 32) (hr : HRow w v D) :
    (Builtin.copy_ #[32, 32] ty #[.slice (some ⟨g, 0, none⟩) D.length cap, v]).run Try.prog w = .ok (goInt D.length) (w.setRow g (flatH D).toArray) := by
  have hst := run_storeCells_at Try.prog g 0 27 (flatH D) 0 cur w hg (by rw [flatH_len]; omega) (flatH_one D)
  have hcur : (cur.toList.take (0 + 0) ++ flatH D ++ cur.toList.drop (0 + 0 + (flatH D).length)).toArray = (flatH D).toArray := by
    rw [flatH_len, List.drop_of_length_le (by rw [Array.length_toList]; omega)]; simp
  rw [hcur] at hst
  obtain ⟨i, hi, hsz⟩ := Option.map_eq_some_iff.1 Try.size27
  rcases hr with ⟨a, c, rfl, rfl, hac⟩ | ⟨b, off, cap2, rfl, _, hc⟩
  · rw [flatH_nil] at hst
    rw [flatH_nil]
    cases a with
    | none => simp [Builtin.copy_, run_underlying Try.underlying32, Builtin.lenOf, Builtin.firstCells, sizeOf, typeInfo, hi, hst]
    | some ad => simp [Builtin.copy_, run_underlying Try.underlying32, Builtin.lenOf, Builtin.firstCells, sizeOf, typeInfo, hi, loadCells, loadCellsFrom, hst]
  · have hl := run_loadCells_list (P := Try.prog) w ⟨b, off, none⟩ (flatH D) (fun j v hv => by rw [Addr.add_mid]; exact hc j v hv)
    rw [flatH_len] at hl
    simp [Builtin.copy_, run_underlying Try.underlying32, Builtin.lenOf, Builtin.firstCells, sizeOf, typeInfo, hi, hsz, hl, hst]

theorem wpList_copyH {ops : Array Oper} {rest : List Oper} {o : Oper} {a : Act} {w : World} {Q : Exit → Act → World → Prop} (hgd : o.guard = none) (d s : Operand)
    (ho : o.op = .call { callee := .builtin .copy, args := #[d, s], argTypes := #[32, 32] }) (g cap : Nat) (v : Value) (D : List Hs) (cur : Array Value)
    (hd : a.eval d = .slice (some ⟨g, 0, none⟩) D.length cap) (hs : a.eval s = v) (hg : Blk w g 27 cur) (hsz : cur.size = D.length * 32) (hr : HRow w v D)
    (h : wpList Try.prog ops Q rest (a.put o.dst (goInt D.length)) (w.setRow g (flatH D).toArray)) : wpList Try.prog ops Q (o :: rest) a w := by
  refine wpList_plain hgd fun K hK => ?_
  have hrun := run_copyH w g cap v D o.type cur hg hsz hr
  unfold Oper.wp
  simp only [execOp, ho, resolve, invoke, builtin, List.map_toArray, List.map_cons, List.map_nil, hd, hs, Sem.run_bind, Sem.run_pure, hrun, Result.andThen_ok]
  exact hK _ _ h

theorem run_makeH (n : Nat) (hn : n ≤ 4398046511104) (w : World) : (Instr.makeSlice 32 (.int .i64 (n : Int)) (.int .i64 (n : Int))).run Try.prog w = .ok (.slice (some ⟨w.heap.size, 0, none⟩) n n) (w.alloc (.cells (madeCells (bytesA 32 fun _ => 0) (n * 32)) 27)) := by
  obtain ⟨i, hi, hzz⟩ := Option.map_eq_some_iff.1 Try.info27
  simp only [Prod.mk.injEq] at hzz
  obtain ⟨hz, hs, hb⟩ := hzz
  have hr := run_make (P := Try.prog) w 32 27 i _ Try.underlying32 hi hz .i64 .i64 (n : Int) (n : Int) (by omega) (by omega) (by rw [hb]; omega) (by omega)
  simp only [Int.toNat_natCast, hs, Value.cells] at hr
  exact hr
theorem wpList_makeH {ops : Array Oper} {rest : List Oper} {o : Oper} {a : Act} {w : World} {Q : Exit → Act → World → Prop} (hgd : o.guard = none) (x y : Operand) (ho : o.op = .makeSlice 32 x y) (n : Nat) (hn : n ≤ 4398046511104)
    (hx : a.eval x = .int .i64 (n : Int)) (hy : a.eval y = .int .i64 (n : Int))
    (h : wpList Try.prog ops Q rest (a.put o.dst (.slice (some ⟨w.heap.size, 0, none⟩) n n)) (w.alloc (.cells (madeCells (bytesA 32 fun _ => 0) (n * 32)) 27))) : wpList Try.prog ops Q (o :: rest) a w := by
  refine wpList_plain hgd fun K hK => ?_
  unfold Oper.wp
  simp only [execOp, ho, hx, hy, Sem.run_bind, run_makeH n hn w, Result.andThen_ok]
  exact hK _ _ h

theorem setH_flat (E : List Hs) (k : Nat) (x : Hs) (hk : k < E.length) : ((flatH E).toArray.toList.take (k * 32) ++ (encH x) ++ (flatH E).toArray.toList.drop (k * 32 + 32)).toArray = (flatH (E.set k x)).toArray := by
  show ((flatH E).take (k * 32) ++ _ ++ (flatH E).drop _).toArray = _
  rw [flatH_take, show k * 32 + 32 = (k + 1) * 32 by omega, flatH_drop]
  have : E.set k x = E.take k ++ [x] ++ E.drop (k + 1) := by
    rw [List.set_eq_take_append_cons_drop, if_pos hk]; simp
  rw [this, flatH_app, flatH_app]
  simp [flatH]
/-- A hash into its place of a block. -/
theorem wpList_storeH {ops : Array Oper} {rest : List Oper} {o : Oper} {a : Act} {w : World} {Q : Exit → Act → World → Prop} (hgd : o.guard = none) (x y : Operand) (ho : o.op = .store 27 x y)
    (g k : Nat) (hh : Hs) (E : List Hs) (hx : a.eval x = .pointer (some ⟨g, k * 32, none⟩)) (hy : a.eval y = .agg (encH hh).toArray) (hg : Blk w g 27 (flatH E).toArray) (hk : k < E.length)
    (h : wpList Try.prog ops Q rest (a.put o.dst undef) (w.setRow g (flatH (E.set k hh)).toArray)) : wpList Try.prog ops Q (o :: rest) a w := by
  have e1 : (Try.prog.info? 27).map (·.size) = some (encH hh).toArray.size := by rw [List.size_toArray, encH_len]; exact Try.size27
  have e2 : k * 32 + (encH hh).toArray.size ≤ (flatH E).toArray.size := by rw [flatH_arr_size, List.size_toArray, encH_len]; omega
  have e3 : (encH hh).toArray.all (·.oneCell') = true := all_oneCell_toArray (encH_one hh)
  have e4 : ((flatH E).toArray.toList.take (k * 32) ++ (encH hh).toArray.toList ++ (flatH E).toArray.toList.drop (k * 32 + (encH hh).toArray.size)).toArray = (flatH (E.set k hh)).toArray := by
    rw [← setH_flat E k hh hk, List.size_toArray, encH_len]
  generalize (encH hh).toArray = C at *
  generalize (flatH E).toArray = F at *
  generalize (flatH (E.set k hh)).toArray = G at *
  refine wpList_plain hgd fun K hK => ?_
  refine wp_store_part 27 x y ho g (k * 32) C hx hy 27 F hg e1 e2 e3 ?_
  rw [e4]
  exact hK _ _ h
theorem Grown.step {a b c : World} {S : Nat → Prop} {o : Option Nat} (h : Grown a b S) (hg : b.grownBy c o) (ho : ∀ k, o = some k → S k ∨ a.heap.size ≤ k) : Grown a c S :=
  ⟨hg.os.trans h.os, hg.tape.trans h.tape, hg.output.trans h.output, Nat.le_trans h.size hg.size, fun i hi hs => (hg.block i (Nat.lt_of_lt_of_le hi h.size) (fun e => by
    rcases ho i e.symm with h1 | h1
    · exact hs h1
    · omega)).trans (h.block i hi hs)⟩
theorem Grown.belowS {a b c : World} {S : Nat → Prop} (h : Grown a b S) (hb : Below b.heap.size b c) : Grown a c S := h.trans (Grown.below hb)
theorem Grown.allocS {a b : World} {S : Nat → Prop} (h : Grown a b S) (o : Obj) : Grown a (b.alloc o) S := h.belowS (below_new b o)
theorem rangeAt_grown {w w' : World} {b off : Nat} {cs : List Value} {S : Nat → Prop} (h : w.rangeAt b off cs) (hg : Grown w w' S) (hs : ¬ S b) : w'.rangeAt b off cs := fun j v hv => by
  have h1 := h j v hv
  rw [World.cell?_of_block (hg.block b (cell_lt h1) hs)]; exact h1
theorem cell_grown {w w' : World} {b off : Nat} {v : Value} {S : Nat → Prop} (h : w.cell? ⟨b, off, none⟩ = some v) (hg : Grown w w' S) (hs : ¬ S b) : w'.cell? ⟨b, off, none⟩ = some v := by
  rw [World.cell?_of_block (hg.block b (cell_lt h) hs)]; exact h
theorem HRow.grown {w w' : World} {v : Value} {L : List Hs} {S : Nat → Prop} (h : HRow w v L) (hg : Grown w w' S) (hs : ∀ b o n c, v = .slice (some ⟨b, o, none⟩) n c → ¬ S b) : HRow w' v L := by
  rcases h with h | ⟨b, off, cap, h1, h2, h3⟩
  · exact .inl h
  · exact .inr ⟨b, off, cap, h1, h2, rangeAt_grown h3 hg (hs _ _ _ _ h1)⟩
theorem mkH_arr (c : Nat → Int) (hc : ∀ i, i < 32 → 0 ≤ c i ∧ c i < 256) : bytesA 32 c = (encH (Hs.mk' c hc)).toArray := by
  rw [encH_arr]; exact bytesA_congr fun i hi => (Hs.mk'_f c hc i hi).symm
/-- Append of hashes, in a region that draws. -/
theorem wp_appH {o : Oper} {a : Act} {w : World} {K : Act → World → Prop} {Q : Exit → Act → World → Prop} (s x : Operand)
    (ho : o.op = .call { callee := .builtin .append, args := #[s, x], argTypes := #[32, 32] }) (base : Nat) (v vx : Value) (L M : List Hs)
    (hs : a.eval s = v) (hx : a.eval x = vx) (hown : w.ownsRow base 27 32 v L.length (flatH L)) (hrow : HRow w vx M) (hb : L.length + M.length ≤ 4398046511104) (hbase : base ≤ w.heap.size)
    (h : ∀ v' w', w'.ownsRow base 27 32 v' (L ++ M).length (flatH (L ++ M)) → w.grownBy w' v.ownBlock → K (a.put o.dst v') w') : o.wp Try.prog a w K Q := by
  obtain ⟨i, hi, hzz⟩ := Option.map_eq_some_iff.1 Try.info27
  simp only [Prod.mk.injEq] at hzz
  obtain ⟨hz, hsz, hby⟩ := hzz
  have hzs : (Value.agg (bytesA 32 fun _ => 0)).cells.size = 32 := by show (bytesA 32 fun _ => 0).size = 32; exact bytesA_size _ _
  rw [flatH_app, List.length_append] at h
  rcases hrow with ⟨ad, c, rfl, rfl, hac⟩ | ⟨b, off, cap, rfl, hcap, hc⟩
  · cases ad with
    | none =>
      obtain rfl := hac rfl
      have hrun := run_append_owned_none (P := Try.prog) (w := w) base 32 o.type 27 i 32 Try.underlying32 hi v L.length _ hown
      unfold Oper.wp execOp
      simp only [ho, resolve, invoke, builtin, Sem.run_bind, Sem.run_pure, Result.andThen_ok, List.map_toArray, List.map_cons, List.map_nil, hs, hx, hrun]
      refine h v w ?_ (World.grownBy.refl w _)
      simpa [flatH_nil] using hown
    | some ad =>
      refine wp_append_own w s x 32 ho base 27 i _ 32 32 Try.underlying32 hi hz hsz hby hzs (by omega) v L.length _ hs hown ad 0 c [] hx rfl (fun j u hu => by simp at hu) (fun u hu => by simp at hu) (by unfold maxLen; simp at hb; omega) (by simp at hb; omega) hbase ?_
      intro v' w' h1 h2 _
      exact h v' w' h1 h2
  · refine wp_append_own w s x 32 ho base 27 i _ 32 32 Try.underlying32 hi hz hsz hby hzs (by omega) v L.length _ hs hown ⟨b, off, none⟩ M.length cap (flatH M) hx (flatH_len M)
      (fun j u hu => by rw [Addr.add_mid]; exact hc j u hu) (flatH_one M) (by unfold maxLen; omega) (by omega) hbase ?_
    intro v' w' h1 h2 _
    exact h v' w' h1 h2
theorem ownsH_form {w : World} {base : Nat} {v : Value} {n : Nat} {xs : List Value} (h : w.ownsRow base 27 32 v n xs) (hn : 0 < n) : ∃ g cap, v = .slice (some ⟨g, 0, none⟩) n cap ∧ base ≤ g ∧ n ≤ cap ∧ g < w.heap.size := by
  obtain ⟨_, h2⟩ := h
  rcases h2 with ⟨_, h0⟩ | ⟨g, cap, cur, e, hg, hh, hc, _⟩
  · omega
  · exact ⟨g, cap, e, hg, hc, (Array.getElem?_eq_some_iff.1 hh).1⟩
theorem ownsH_drew {w : World} {base n : Nat} {v : Value} {xs : List Value} (h : w.ownsRow base 27 32 v n xs) : w.drew.ownsRow base 27 32 v n xs := h
theorem bs1H (x : Hs) (w : World) : (Instr.buildSlice 32 1 #[(0, .agg (encH x).toArray)]).run Try.prog w = .ok (.slice (some ⟨w.heap.size, 0, none⟩) 1 1) (w.alloc (.cells (encH x).toArray 27)) := by rw [encH_arr]; exact Try.bs1 _ w
theorem one_row (z : Hs) (w : World) : HRow (w.alloc (.cells (encH z).toArray 27)) (.slice (some ⟨w.heap.size, 0, none⟩) 1 1) [z] := HRow.mk rfl (Nat.le_refl _) fun j v hv => by
  rw [Nat.zero_add, (Blk.new w 27 _).cell]; simpa [flatH] using hv
theorem one_range (z : Hs) (w : World) : (w.alloc (.cells (encH z).toArray 27)).rangeAt w.heap.size 0 (flatH [z]) := fun j v hv => by
  rw [Nat.zero_add, (Blk.new w 27 _).cell]; simpa [flatH] using hv
/-- Append of hashes, and where the row lies then. -/
theorem wpList_appAt {ops : Array Oper} {rest : List Oper} {o : Oper} {a : Act} {w : World} {Q : Exit → Act → World → Prop} (hgd : o.guard = none) (s x : Operand)
    (ho : o.op = .call { callee := .builtin .append, args := #[s, x], argTypes := #[32, 32] }) (base : Nat) (v : Value) (L M : List Hs) (b off cap : Nat)
    (hs : a.eval s = v) (hx : a.eval x = .slice (some ⟨b, off, none⟩) M.length cap) (hown : w.ownsRow base 27 32 v L.length (flatH L)) (hc : w.rangeAt b off (flatH M)) (hb : L.length + M.length ≤ 4398046511104) (hbase : base ≤ w.heap.size)
    (h : ∀ v' w', w'.ownsRow base 27 32 v' (L ++ M).length (flatH (L ++ M)) → w.grownBy w' v.ownBlock → (v'.ownBlock = v.ownBlock ∨ v'.ownBlock = some w.heap.size) → wpList Try.prog ops Q rest (a.put o.dst v') w') : wpList Try.prog ops Q (o :: rest) a w := by
  obtain ⟨i, hi, hzz⟩ := Option.map_eq_some_iff.1 Try.info27
  simp only [Prod.mk.injEq] at hzz
  obtain ⟨hz, hsz, hby⟩ := hzz
  have hzs : (Value.agg (bytesA 32 fun _ => 0)).cells.size = 32 := by show (bytesA 32 fun _ => 0).size = 32; exact bytesA_size _ _
  rw [flatH_app, List.length_append] at h
  refine wpList_append_own_at w hgd s x 32 ho base 27 i _ 32 32 Try.underlying32 hi hz hsz hby hzs (by omega) v L.length _ hs hown ⟨b, off, none⟩ M.length cap (flatH M) hx (flatH_len M)
    (fun j u hu => by rw [Addr.add_mid]; exact hc j u hu) (flatH_one M) (by unfold maxLen; omega) (by omega) hbase ?_
  intro v' w' h1 h2 _ h4
  exact h v' w' h1 h2 h4
/-- Cells of hashes, one behind the other, are a row. -/
theorem rangeAt_of_elems {w : World} {b off : Nat} {L : List Hs} (h : ∀ i (hi : i < L.length), w.rangeAt b (off + i * 32) (encH L[i])) : w.rangeAt b off (flatH L) := by
  intro j v hv
  have hj : j < L.length * 32 := by have := (List.getElem?_eq_some_iff.1 hv).1; rwa [flatH_len] at this
  have hi : j / 32 < L.length := by omega
  have h1 := flatH_get L (j / 32) hi (j % 32) (by omega)
  rw [show j / 32 * 32 + j % 32 = j by omega, hv] at h1
  have h2 := h (j / 32) hi (j % 32) v h1.symm
  rwa [show off + j / 32 * 32 + j % 32 = off + j by omega] at h2

theorem layUp_rng (s : Nat → Int) : ∀ t i, 0 ≤ layUp s t i ∧ layUp s t i < 256
  | 0, i => by simp [layUp]
  | t + 1, i => by
    have ih := layUp_rng s t i
    simp only [layUp, upd]
    repeat' split
    all_goals first | exact ih | omega
theorem shaP_rng (l : List Int) (i : Nat) : 0 ≤ shaP l i ∧ shaP l i < 256 := layUp_rng _ 8 i
/-- The hash of a row, as a hash. -/
def shaH (l : List Int) : Hs := Hs.mk' (shaP l) fun i _ => shaP_rng l i
theorem shaH_f (l : List Int) (i : Nat) (hi : i < 32) : (shaH l).f i = shaP l i := Hs.mk'_f _ _ i hi
theorem shaH_arr (l : List Int) : bytesA 32 (shaP l) = (encH (shaH l)).toArray := by
  rw [encH_arr]; exact bytesA_congr fun i hi => (shaH_f l i hi).symm

end Go.Proofs.Ytfheinghkigocaa
namespace Go.Proofs.Ytfheinghkigocaa
open Go.RowKit
set_option linter.unusedSimpArgs false
set_option linter.unusedVariables false

/-- How often 8 is doubled. -/
def szK (n : Int) : Nat → Nat → Nat
  | 0, k => k
  | f + 1, k => if 8 * (8 * 2 ^ k : Int) < 10 * n then szK n f (k + 1) else k
def szN (n : Int) : Nat := 8 * 2 ^ szK n 10 0
theorem szK_le (n : Int) : ∀ f k, szK n f k ≤ f + k
  | 0, k => by simp [szK]
  | f + 1, k => by
    unfold szK
    split
    · have := szK_le n f (k + 1); omega
    · omega
theorem pow_le10 {t : Nat} (ht : t ≤ 10) : (1 : Int) ≤ 2 ^ t ∧ (2 : Int) ^ t ≤ 1024 := by
  have h : ∀ t : Fin 11, (1 : Int) ≤ 2 ^ t.val ∧ (2 : Int) ^ t.val ≤ 1024 := by decide
  exact h ⟨t, by omega⟩
theorem pow_lt10 {t : Nat} (ht : t < 10) : (2 : Int) ^ t ≤ 512 := by
  have h : ∀ t : Fin 10, (2 : Int) ^ t.val ≤ 512 := by decide
  exact h ⟨t, by omega⟩
theorem szN_rng (n : Int) : 8 ≤ szN n ∧ szN n ≤ 8192 := by
  have h := szK_le n 10 0
  have := pow_le10 (t := szK n 10 0) (by omega)
  have e : ((2 ^ szK n 10 0 : Nat) : Int) = 2 ^ szK n 10 0 := by simp
  unfold szN
  omega

set_option maxHeartbeats 1000000 in
theorem size_any (n : Int) (w : World) : Calls Try.prog 10 #[.int .i64 n] w fun e w' => e = .returned (.int .i64 (szN n)) ∧ w' = w := by
  go_enter Try.func10, Try.ntmps10
  go_wp2
  go_loop [3] (fun i => ∃ t : Nat, t ≤ 10 ∧ i = .int .i64 (8 * 2 ^ t : Int) ∧ szK n (10 - t) t = szK n 10 0) (fun i => 8192 - (intOf i).toNat)
  case atStart => exact ⟨0, by omega, rfl, rfl⟩
  case round =>
    obtain ⟨t, ht, rfl, hk⟩ := hrel
    have hp := pow_le10 ht
    have hp2 : (2 : Int) ^ (t + 1) = 2 ^ t * 2 := Int.pow_succ ..
    by_cases hlt : t < 10
    · have hq := pow_lt10 hlt
      rw [show 10 - t = (10 - (t + 1)) + 1 by omega, szK] at hk
      obtain ⟨p, hpe⟩ : ∃ p, (2 : Int) ^ t = p := ⟨_, rfl⟩
      rw [hpe] at hp hp2 hq hk ⊢
      have h1 : 8 * p < 8192 := by omega
      have hw1 : IntKind.i64.wrap (8 * (8 * p)) = 8 * (8 * p) := by rw [IntKind.wrap_i64]; omega
      have hw2 : IntKind.i64.wrap (8 * p * 2) = 8 * p * 2 := by rw [IntKind.wrap_i64]; omega
      by_cases hg : 8 * (8 * p) < 10 * n
      · have hg2 : n > (8 * (8 * p)) / 10 := by omega
        rw [if_pos hg] at hk
        go_wp2
        refine ⟨⟨t + 1, by omega, by rw [hp2]; go_num, hk⟩, by simp only [intOf]; omega⟩
      · have hg2 : ¬ n > (8 * (8 * p)) / 10 := by omega
        rw [if_neg hg] at hk
        have he : (szN n : Int) = 8 * p := by unfold szN; rw [← hk]; push_cast; rw [hpe]
        go_wp2
        go_ret
        exact ⟨rfl, rfl⟩
    · obtain rfl : t = 10 := by omega
      have he : (szN n : Int) = 8192 := by unfold szN; rw [← hk]; rfl
      rw [show (8 * 2 ^ 10 : Int) = 8192 from rfl]
      clear hk hp hp2
      go_wp2
      go_ret
      exact ⟨rfl, rfl⟩

set_option maxHeartbeats 1000000 in
theorem rsize_any (n : Int) (w : World) : Calls Try.prog 11 #[.int .i64 n] w fun e w' => e = .returned (.int .i64 (szN n)) ∧ w' = w := by
  go_enter Try.func11, Try.ntmps11
  go_wp2
  go_loop [3] (fun i => ∃ t : Nat, t ≤ 10 ∧ i = .int .i64 (8 * 2 ^ t : Int) ∧ szK n (10 - t) t = szK n 10 0) (fun i => 8192 - (intOf i).toNat)
  case atStart => exact ⟨0, by omega, rfl, rfl⟩
  case round =>
    obtain ⟨t, ht, rfl, hk⟩ := hrel
    have hp := pow_le10 ht
    have hp2 : (2 : Int) ^ (t + 1) = 2 ^ t * 2 := Int.pow_succ ..
    by_cases hlt : t < 10
    · have hq := pow_lt10 hlt
      rw [show 10 - t = (10 - (t + 1)) + 1 by omega, szK] at hk
      obtain ⟨p, hpe⟩ : ∃ p, (2 : Int) ^ t = p := ⟨_, rfl⟩
      rw [hpe] at hp hp2 hq hk ⊢
      have h1 : 8 * p < 8192 := by omega
      have hw1 : IntKind.i64.wrap (8 * (8 * p)) = 8 * (8 * p) := by rw [IntKind.wrap_i64]; omega
      have hw2 : IntKind.i64.wrap (2 * (8 * p)) = 2 * (8 * p) := by rw [IntKind.wrap_i64]; omega
      by_cases hg : 8 * (8 * p) < 10 * n
      · rw [if_pos hg] at hk
        have h0 : n > 0 := by omega
        by_cases hb : n > 100000
        · go_wp2
          refine ⟨⟨t + 1, by omega, by rw [hp2]; go_num, hk⟩, by simp only [intOf]; omega⟩
        · have hw3 : IntKind.i64.wrap (10 * n) = 10 * n := by rw [IntKind.wrap_i64]; omega
          go_wp2
          refine ⟨⟨t + 1, by omega, by rw [hp2]; go_num, hk⟩, by simp only [intOf]; omega⟩
      · have hb : ¬ n > 100000 := by omega
        rw [if_neg hg] at hk
        have he : (szN n : Int) = 8 * p := by unfold szN; rw [← hk]; push_cast; rw [hpe]
        by_cases h0 : n > 0
        · have hw3 : IntKind.i64.wrap (10 * n) = 10 * n := by rw [IntKind.wrap_i64]; omega
          go_wp2
          go_ret
          exact ⟨rfl, rfl⟩
        · go_wp2
          go_ret
          exact ⟨rfl, rfl⟩
    · obtain rfl : t = 10 := by omega
      have he : (szN n : Int) = 8192 := by unfold szN; rw [← hk]; rfl
      rw [show (8 * 2 ^ 10 : Int) = 8192 from rfl]
      have h0 : n > 0 := by
        apply Int.not_le.1
        intro h0
        have : szK n 10 0 = 0 := by unfold szK; rw [if_neg (by omega)]
        rw [this] at hk; simp [szK] at hk
      clear hk hp hp2
      go_wp2
      go_ret
      exact ⟨rfl, rfl⟩

/-- May a digest have so many bytes? -/
def isP (n : Int) : Bool := [8, 16, 32, 64, 128, 256, 512, 1024, 2048, 4096, 8192].contains n
theorem and_pow0 : ∀ a : Fin 65, ∀ b : Fin 128, 8 ≤ 128 * a.val + b.val → 128 * a.val + b.val ≤ 8192 → (bits .and .i64 ((128 * a.val + b.val : Nat) : Int) (((128 * a.val + b.val : Nat) : Int) - 1) == 0) = isP ((128 * a.val + b.val : Nat) : Int) := by decide +kernel
theorem and_pow (n : Nat) (h1 : 8 ≤ n) (h2 : n ≤ 8192) : (bits .and .i64 (n : Int) ((n : Int) - 1) == 0) = isP n := by
  have h := and_pow0 ⟨n / 128, by omega⟩ ⟨n % 128, by omega⟩
  simp only [show 128 * (n / 128) + n % 128 = n by omega] at h
  exact h h1 h2
theorem isP_iff (n : Int) : isP n = true ↔ ∃ t : Nat, t ≤ 10 ∧ n = 8 * 2 ^ t := by
  constructor
  · intro h
    simp [isP] at h
    rcases h with rfl | rfl | rfl | rfl | rfl | rfl | rfl | rfl | rfl | rfl | rfl
    · exact ⟨0, by omega, rfl⟩
    · exact ⟨1, by omega, rfl⟩
    · exact ⟨2, by omega, rfl⟩
    · exact ⟨3, by omega, rfl⟩
    · exact ⟨4, by omega, rfl⟩
    · exact ⟨5, by omega, rfl⟩
    · exact ⟨6, by omega, rfl⟩
    · exact ⟨7, by omega, rfl⟩
    · exact ⟨8, by omega, rfl⟩
    · exact ⟨9, by omega, rfl⟩
    · exact ⟨10, by omega, rfl⟩
  · rintro ⟨t, ht, rfl⟩
    have h : ∀ t : Fin 11, isP (8 * 2 ^ t.val) = true := by decide +kernel
    exact h ⟨t, by omega⟩
theorem isP_rng {n : Int} (h : isP n = true) : 8 ≤ n ∧ n ≤ 8192 := by
  obtain ⟨t, ht, rfl⟩ := (isP_iff n).1 h
  have := pow_le10 ht
  omega
theorem isP_sz (n : Int) : isP (szN n) = true := (isP_iff _).2 ⟨szK n 10 0, by have := szK_le n 10 0; omega, by unfold szN; push_cast; rfl⟩

set_option maxHeartbeats 1000000 in
theorem isSize_any (n : Int) (w : World) : Calls Try.prog 31 #[.int .i64 n] w fun e w' => e = .returned (.bool (isP n)) ∧ w' = w := by
  by_cases h1 : 8 ≤ n
  · by_cases h2 : n ≤ 8192
    · have hw : IntKind.i64.wrap (n - 1) = n - 1 := by rw [IntKind.wrap_i64]; omega
      have ha := and_pow n.toNat (by omega) (by omega)
      simp only [Int.toNat_of_nonneg (show 0 ≤ n by omega)] at ha
      generalize isP n = b at *
      go_enter Try.func31, Try.ntmps31
      go_wp2
      go_ret
      exact ⟨by simp_all, rfl⟩
    · have hb : isP n = false := by cases hq : isP n with
        | false => rfl
        | true => have := isP_rng hq; omega
      rw [hb]
      go_enter Try.func31, Try.ntmps31
      go_wp2
      go_ret
      exact ⟨rfl, rfl⟩
  · have hb : isP n = false := by cases hq : isP n with
        | false => rfl
        | true => have := isP_rng hq; omega
    rw [hb]
    go_enter Try.func31, Try.ntmps31
    go_wp2
    go_ret
    exact ⟨rfl, rfl⟩

set_option maxHeartbeats 1000000 in
theorem power_any (n : Int) (w : World) : Calls Try.prog 29 #[.int .i64 n] w fun e w' => e = .returned (.bool (isP n)) ∧ w' = w := by
  obtain ⟨b, hb⟩ : ∃ b, b = isP n := ⟨_, rfl⟩
  rw [← hb]
  go_enter Try.func29, Try.ntmps29
  go_wp2
  go_loop [3] (fun i => ∃ t : Nat, t ≤ 11 ∧ i = .int .i64 (8 * 2 ^ t : Int) ∧ ∀ j : Nat, j < t → n ≠ 8 * 2 ^ j) (fun i => 32768 - (intOf i).toNat)
  case atStart => exact ⟨0, by omega, rfl, fun j hj => by omega⟩
  case round =>
    obtain ⟨t, ht, rfl, hk⟩ := hrel
    have hp2 : (2 : Int) ^ (t + 1) = 2 ^ t * 2 := Int.pow_succ ..
    by_cases hlt : t ≤ 10
    · have hp := pow_le10 hlt
      obtain ⟨p, hpe⟩ : ∃ p, (2 : Int) ^ t = p := ⟨_, rfl⟩
      rw [hpe] at hp hp2 ⊢
      have h1 : 8 * p ≤ 8192 := by omega
      have hw2 : IntKind.i64.wrap (2 * (8 * p)) = 2 * (8 * p) := by rw [IntKind.wrap_i64]; omega
      by_cases hg : 8 * p = n
      · obtain rfl : b = true := by rw [hb]; exact (isP_iff n).2 ⟨t, hlt, by rw [hpe]; omega⟩
        clear hb hk
        go_wp2
        go_ret
        exact ⟨rfl, rfl⟩
      · clear hb
        go_wp2
        refine ⟨⟨t + 1, by omega, by rw [hp2]; go_num, fun j hj => ?_⟩, by simp only [intOf]; omega⟩
        by_cases hjt : j = t
        · subst hjt; rw [hpe]; omega
        · exact hk j (by omega)
    · obtain rfl : t = 11 := by omega
      obtain rfl : b = false := by
        rw [hb]
        cases hq : isP n with
        | false => rfl
        | true => obtain ⟨j, hj, e⟩ := (isP_iff n).1 hq; exact absurd e (hk j (by omega))
      rw [show (8 * 2 ^ 11 : Int) = 16384 from rfl]
      clear hk hb hp2
      go_wp2
      go_ret
      exact ⟨rfl, rfl⟩

end Go.Proofs.Ytfheinghkigocaa
namespace Go.Proofs.Ytfheinghkigocaa
open Go.RowKit
set_option linter.unusedSimpArgs false
set_option linter.unusedVariables false

/-! ### Four numbers in an array. -/
def u64A (c : Nat → Int) : Array Value := Array.ofFn (n := 4) fun i => .int .u64 (c i.val)
def intA (c : Nat → Int) : Array Value := Array.ofFn (n := 4) fun i => .int .i64 (c i.val)
theorem u64A_size (c : Nat → Int) : (u64A c).size = 4 := by simp [u64A]
theorem u64A_get (c : Nat → Int) (j : Nat) (h : j < 4) : (u64A c)[j]? = some (.int .u64 (c j)) := by simp [u64A, h]
theorem u64A_set (c : Nat → Int) (j : Nat) (v : Int) : (u64A c).setIfInBounds j (.int .u64 v) = u64A (upd c j v) := by
  apply Array.ext_getElem?
  intro i
  rw [Array.getElem?_setIfInBounds]
  by_cases e : j = i
  · subst e
    by_cases hj : j < 4 <;> simp [u64A, upd, hj]
  · by_cases hi : i < 4 <;> simp [u64A, upd, hi, e, Ne.symm e]
theorem u64A_one (c : Nat → Int) : (u64A c).all (·.oneCell') = true := by
  rw [Array.all_eq_true_iff_forall_mem]; intro v hv; simp [u64A] at hv; obtain ⟨i, rfl⟩ := hv; rfl
theorem u64A_congr {c d : Nat → Int} (h : ∀ i, i < 4 → c i = d i) : u64A c = u64A d := by
  unfold u64A; congr 1; funext i; rw [h i.val i.isLt]
theorem intA_size (c : Nat → Int) : (intA c).size = 4 := by simp [intA]
theorem intA_get (c : Nat → Int) (j : Nat) (h : j < 4) : (intA c)[j]? = some (.int .i64 (c j)) := by simp [intA, h]
theorem intA_set (c : Nat → Int) (j : Nat) (v : Int) : (intA c).setIfInBounds j (.int .i64 v) = intA (upd c j v) := by
  apply Array.ext_getElem?
  intro i
  rw [Array.getElem?_setIfInBounds]
  by_cases e : j = i
  · subst e
    by_cases hj : j < 4 <;> simp [intA, upd, hj]
  · by_cases hi : i < 4 <;> simp [intA, upd, hi, e, Ne.symm e]
theorem intA_one (c : Nat → Int) : (intA c).all (·.oneCell') = true := by
  rw [Array.all_eq_true_iff_forall_mem]; intro v hv; simp [intA] at hv; obtain ⟨i, rfl⟩ := hv; rfl
theorem intA_congr {c d : Nat → Int} (h : ∀ i, i < 4 → c i = d i) : intA c = intA d := by
  unfold intA; congr 1; funext i; rw [h i.val i.isLt]
theorem Try.size61 : (Try.prog.info? 61).map (·.size) = some 4 := by kernel_rfl
theorem Try.size51 : (Try.prog.info? 51).map (·.size) = some 4 := by kernel_rfl
theorem Try.size61U (c : Nat → Int) : (Try.prog.info? 61).map (·.size) = some (u64A c).size := by rw [u64A_size]; exact Try.size61
theorem Try.size51I (c : Nat → Int) : (Try.prog.info? 51).map (·.size) = some (intA c).size := by rw [intA_size]; exact Try.size51
theorem Try.new61 (w : World) : (Instr.alloc 61 true (.tuple #[])).run Try.prog w = .ok (.pointer (some ⟨w.heap.size, 0, none⟩)) (w.alloc (.cells (u64A fun _ => 0) 61)) := by kernel_rfl
theorem Try.new51 (w : World) : (Instr.alloc 51 true (.tuple #[])).run Try.prog w = .ok (.pointer (some ⟨w.heap.size, 0, none⟩)) (w.alloc (.cells (intA fun _ => 0) 51)) := by kernel_rfl
theorem Try.new65 (w : World) : (Instr.alloc 65 true (.tuple #[])).run Try.prog w = .ok (.pointer (some ⟨w.heap.size, 0, none⟩)) (w.alloc (.cells (bytesA 8 fun _ => 0) 65)) := by kernel_rfl

/-! ### The four numbers of a hash. -/
def saltF (s : Int) (t : Nat) : Nat → Int := fun i => if i < t then s / 2 ^ (8 * i) % 256 else 0
def saltL (s : Int) : List Int := hl 8 (saltF s 8)
def seedL (s : Int) (x : Hs) : List Int := saltL s ++ hl 32 x.f
theorem seedL_len (s : Int) (x : Hs) : (seedL s x).length = 40 := by simp [seedL, saltL, hl_len]
theorem salt_next (s : Int) (t : Nat) (ht : t < 8) : bytesA 8 (upd (saltF s t) t (s / 2 ^ (8 * t) % 256)) = bytesA 8 (saltF s (t + 1)) := by
  apply bytesA_congr
  intro i hi
  unfold upd saltF
  by_cases h : i = t
  · subst h; simp
  · simp only [if_neg h]
    by_cases h2 : i < t
    · rw [if_pos h2, if_pos (by omega)]
    · rw [if_neg h2, if_neg (by omega)]
/-- The lowest bytes of a number, the first one lowest. -/
def lsum (c : Nat → Int) (i : Nat) : Nat → Int
  | 0 => 0
  | k + 1 => lsum c i k + c (8 * i + k) * 2 ^ (8 * k)
theorem lsum_rng (c : Nat → Int) (hc : ∀ i, 0 ≤ c i ∧ c i < 256) (i : Nat) : ∀ k, 0 ≤ lsum c i k ∧ lsum c i k < 2 ^ (8 * k)
  | 0 => by simp [lsum]
  | k + 1 => by
    have h := lsum_rng c hc i k
    have hb := hc (8 * i + k)
    have hp : (2 : Int) ^ (8 * (k + 1)) = 256 * 2 ^ (8 * k) := by rw [show 8 * (k + 1) = 8 + 8 * k by omega, Int.pow_add]; rfl
    rw [lsum, hp]
    generalize (2 : Int) ^ (8 * k) = p at *
    constructor
    · have := Int.mul_nonneg hb.1 (show 0 ≤ p by omega); omega
    · have : c (8 * i + k) * p ≤ 255 * p := Int.mul_le_mul_of_nonneg_right (by omega) (by omega)
      omega
theorem or_next (y c : Int) (k : Nat) (hk : k < 8) (hy : 0 ≤ y ∧ y < 2 ^ (8 * k)) (hc : 0 ≤ c ∧ c < 256) : bits .or .u64 y (c * 2 ^ (8 * k)) = y + c * 2 ^ (8 * k) := by
  match k, hk with
  | 0, _ =>
    obtain rfl : y = 0 := by simp at hy; omega
    rw [bits_or_comm]
    rw [Go.u64_or8 _ _ (by simp; omega) (by simp; omega) (by omega) (by omega) (by omega)]; omega
  | 1, _ => exact Go.u64_or8 _ _ hy.1 (by simpa using hy.2) (by simp; omega) (by simp) (by simp; omega)
  | 2, _ => exact Go.u64_or16 _ _ hy.1 (by simpa using hy.2) (by simp; omega) (by simp) (by simp; omega)
  | 3, _ => exact Go.u64_or24 _ _ hy.1 (by simpa using hy.2) (by simp; omega) (by simp) (by simp; omega)
  | 4, _ => exact Go.u64_or32 _ _ hy.1 (by simpa using hy.2) (by simp; omega) (by simp) (by simp; omega)
  | 5, _ => exact Go.u64_or40 _ _ hy.1 (by simpa using hy.2) (by simp; omega) (by simp) (by simp; omega)
  | 6, _ => exact Go.u64_or48 _ _ hy.1 (by simpa using hy.2) (by simp; omega) (by simp) (by simp; omega)
  | 7, _ => exact Go.u64_or56 _ _ hy.1 (by simpa using hy.2) (by simp; omega) (by simp) (by simp; omega)
/-- The numbers of a hash, the first t of them. -/
def numF (c : Nat → Int) (t : Nat) : Nat → Int := fun i => if i < t then lsum c i 8 else 0
def numU (c : Nat → Int) (t k : Nat) : Nat → Int := fun i => if i = t then lsum c t k else numF c t i
theorem numU_zero (c : Nat → Int) (t : Nat) : u64A (numU c t 0) = u64A (numF c t) := by
  apply u64A_congr
  intro i _
  unfold numU numF
  by_cases h : i = t
  · subst h; simp [lsum]
  · simp [h]
theorem numU_full (c : Nat → Int) (t : Nat) : u64A (numU c t 8) = u64A (numF c (t + 1)) := by
  apply u64A_congr
  intro i _
  unfold numU numF
  by_cases h : i = t
  · subst h; simp
  · simp only [if_neg h]
    by_cases h2 : i < t
    · rw [if_pos h2, if_pos (by omega)]
    · rw [if_neg h2, if_neg (by omega)]
theorem numU_next (c : Nat → Int) (t k : Nat) : u64A (upd (numU c t k) t (lsum c t k + c (8 * t + k) * 2 ^ (8 * k))) = u64A (numU c t (k + 1)) := by
  apply u64A_congr
  intro i _
  unfold upd numU
  by_cases h : i = t
  · subst h; simp [lsum]
  · simp [h]
/-- The numbers of a salt and a hash. -/
def nums (s : Int) (x : Hs) : Nat → Int := fun i => lsum (shaP (seedL s x)) i 8
theorem nums_rng (s : Int) (x : Hs) (i : Nat) : 0 ≤ nums s x i ∧ nums s x i < 18446744073709551616 := by
  have := lsum_rng (shaP (seedL s x)) (shaP_rng _) i 8
  simpa [nums] using this
theorem numF_nums (s : Int) (x : Hs) : u64A (numF (shaP (seedL s x)) 4) = u64A (nums s x) := u64A_congr fun i hi => by simp [numF, nums, hi]

/-! ### Rows of rows. -/
theorem wp_newA {P : Program} {o : Oper} {a : Act} {w : World} {K : Act → World → Prop} {Q : Exit → Act → World → Prop} (t : TypeId) (ho : o.op = .alloc t)
    (cells : Array Value) (hf : ∀ w : World, (Instr.alloc t true (.tuple #[])).run P w = .ok (.pointer (some ⟨w.heap.size, 0, none⟩)) (w.alloc (.cells cells t)))
    (h : K (a.put o.dst (.pointer (some ⟨w.heap.size, 0, none⟩))) (w.alloc (.cells cells t))) : o.wp P a w K Q := by
  unfold Oper.wp execOp
  simp only [ho, Sem.run_bind, hf w, Result.andThen_ok]
  exact h
theorem Try.bs39 (a b : Option Addr) (n c n2 c2 : Nat) (w : World) : (Instr.buildSlice 39 2 #[(0, .slice a n c), (1, .slice b n2 c2)]).run Try.prog w = .ok (.slice (some ⟨w.heap.size, 0, none⟩) 2 2) (w.alloc (.cells #[.slice a n c, .slice b n2 c2] 35)) := by kernel_rfl
def two {α : Type} (x y : α) : Nat → α := fun i => if i = 0 then x else y
theorem concat_two (l m : List Int) : concat (two l m) 2 = l ++ m := by simp [concat, two]
theorem rows_two {w : World} {g : Nat} {x y : Value} {l m : List Int} (h : Blk w g 35 #[x, y]) (hx : RowAt w x l) (hy : RowAt w y m) : RowsAt w (.slice (some ⟨g, 0, none⟩) 2 2) 2 (two x y) (two l m) where
  form := .inr ⟨g, 0, 2, rfl, fun i hi => by
    rw [Nat.zero_add, h.cell]
    match i, hi with
    | 0, _ => rfl
    | 1, _ => rfl⟩
  row i hi := by
    match i, hi with
    | 0, _ => exact hx
    | 1, _ => exact hy
theorem wp_bs {P : Program} {o : Oper} {a : Act} {w : World} {K : Act → World → Prop} {Q : Exit → Act → World → Prop} (t : TypeId) (n : Nat) (parts : Array (Nat × Operand)) (ho : o.op = .buildSlice t n parts)
    (vs : Array (Nat × Value)) (hv : (parts.map fun (i, x) => (i, a.eval x)) = vs) (v : Value) (w' : World) (hrun : (Instr.buildSlice t n vs).run P w = .ok v w') (h : K (a.put o.dst v) w') : o.wp P a w K Q := by
  unfold Oper.wp execOp
  simp only [ho, hv, Sem.run_bind, hrun, Result.andThen_ok]
  exact h
theorem all_two {w : World} {g : Nat} {x y : Value} {l m : List Int} (h : Blk w g 35 #[x, y]) (hx : RowAt w x l) (hy : RowAt w y m) (hl : l.length + m.length ≤ 140737488355000) :
    Calls Try.prog 42 #[.slice (some ⟨g, 0, none⟩) 2 2] w fun e w' => e = .returned (.agg (bytesA 32 (shaP (l ++ m)))) ∧ Below w.heap.size w w' := by
  have h1 := ofAll_rows _ 2 _ _ w (rows_two h hx hy) (by omega) (by rw [concat_two, List.length_append]; exact hl)
  rw [concat_two] at h1
  exact h1
end Go.Proofs.Ytfheinghkigocaa
namespace Go.Proofs.Ytfheinghkigocaa
open Go.RowKit
set_option linter.unusedSimpArgs false
set_option linter.unusedVariables false

theorem Try.in42 (w : World) (vs : Array Value) : (callFunc 42 vs).run Try.prog w = .ok (.enter 42 vs) w := by kernel_rfl

set_option maxRecDepth 8000 in
set_option maxHeartbeats 4000000 in
theorem numbers_any (s : Int) (x : Hs) (w : World) (hs : 0 ≤ s ∧ s < 18446744073709551616) :
    Calls Try.prog 39 #[.int .u64 s, .agg (bytesA 32 x.f)] w fun e w' => e = .returned (.agg (u64A (nums s x))) ∧ Below w.heap.size w w' := by
  obtain ⟨ch, Hch⟩ : ∃ ch, Keep (ch = bytesA 32 x.f) := ⟨_, ⟨rfl⟩⟩
  have HIch : Keep ((Try.prog.info? 27).map (·.size) = some ch.size) := ⟨by rw [Hch.out]; exact Try.size27B _⟩
  have HOch : Keep (ch.all (·.oneCell') = true) := ⟨by rw [Hch.out]; exact bytesA_one _ _⟩
  rw [← Hch.out]
  have Hs := Keep.mk hs
  clear hs
  go_enter Try.func39, Try.ntmps39
  go_wp2_with (first | (refine wpList_boxA rfl 27 (.tmp 1) rfl ch rfl ?_; refine Hid.out ?_))
  refine hid_in ?_
  have H3 := Keep.mk (Blk.new w 27 ch)
  have HB := Keep.mk (below_new w (.cells ch 27))
  obtain ⟨g3, hg3⟩ : ∃ g, Keep (g = w.heap.size) := ⟨_, ⟨rfl⟩⟩
  rw [← hg3.out] at H3 ⊢
  generalize w.alloc (.cells ch 27) = wa at *
  go_wp2_with (first | (refine wpList_new rfl 61 rfl _ Try.new61 ?_; refine Hid.out ?_))
  refine hid_in ?_
  have H4 := Keep.mk (Blk.new wa 61 (u64A fun _ => 0))
  have HBb := Keep.mk (HB.out.alloc HB.out.size (.cells (u64A fun _ => 0) 61))
  have H3b := Keep.mk (H3.out.alloc (.cells (u64A fun _ => 0) 61))
  obtain ⟨g4, hg4⟩ : ∃ g, Keep (g = wa.heap.size) := ⟨_, ⟨rfl⟩⟩
  have hl3 := H3.out.lt
  rw [← hg4.out] at H4 hl3 ⊢
  have hge4 : w.heap.size ≤ g4 := by rw [hg4.out]; exact HB.out.size
  generalize wa.alloc (.cells (u64A fun _ => 0) 61) = wb at *
  clear H3 HB
  go_wp2_with (first | (refine wpList_new rfl 65 rfl _ Try.new65 ?_; refine Hid.out ?_))
  refine hid_in ?_
  have H5 := Keep.mk (Blk.new wb 65 (bytesA 8 fun _ => 0))
  have HBc := Keep.mk (HBb.out.alloc HBb.out.size (.cells (bytesA 8 fun _ => 0) 65))
  have H3c := Keep.mk (H3b.out.alloc (.cells (bytesA 8 fun _ => 0) 65))
  have H4c := Keep.mk (H4.out.alloc (.cells (bytesA 8 fun _ => 0) 65))
  obtain ⟨g5, hg5⟩ : ∃ g, Keep (g = wb.heap.size) := ⟨_, ⟨rfl⟩⟩
  have hl4 := H4.out.lt
  rw [← hg5.out] at H5 hl4 ⊢
  have hge5 : w.heap.size ≤ g5 := by have := hg5.out; have := hg4.out; omega
  have HN := Keep.mk (show g3 ≠ g5 ∧ g4 ≠ g5 ∧ g3 ≠ g4 by omega)
  generalize wb.alloc (.cells (bytesA 8 fun _ => 0) 65) = wc at *
  clear H3b HBb H4 hl3 hl4 hg3 hg4 hg5
  go_wp2_with fail
  go_loopw [11] (fun i wr => ∃ t : Nat, t ≤ 8 ∧ i = .int .i64 t ∧ Blk wr g5 65 (bytesA 8 (saltF s t)) ∧ Blk wr g3 27 ch ∧ Blk wr g4 61 (u64A fun _ => 0) ∧ Below w.heap.size w wr) (fun i _ => 8 - (intOf i).toNat)
  case atStart => exact ⟨0, by omega, rfl, (show saltF s 0 = fun _ => 0 from funext fun i => by simp [saltF]) ▸ H5.out, H3c.out, H4c.out, HBc.out⟩
  case round =>
    clear H5 H3c H4c HBc
    obtain ⟨t, ht, rfl, h5, h3, h4, hB⟩ := hrel
    by_cases hlt : t < 8
    · have hlt' : (t : Int) < 8 := by omega
      have hq : IntKind.u8.wrap (s / 2 ^ (8 * t)) = s / 2 ^ (8 * t) % 256 := IntKind.wrap_u8 _
      have h8 : (8 * (t : Int)).toNat = 8 * t := by omega
      have cc : wr.cell? ⟨g5, t, none⟩ = some (.int .u8 (saltF s t t)) := by rw [h5.cell, bytesA_get _ _ _ hlt]
      have ff := h5.frozen t
      have H5n := Keep.mk (h5.set t (.int .u8 (s / 2 ^ (8 * t) % 256)))
      rw [bytesA_set, salt_next s t hlt] at H5n
      have H3n := Keep.mk (h3.set_ne (b' := g5) (j := t) HN.out.1 (.int .u8 (s / 2 ^ (8 * t) % 256)))
      have H4n := Keep.mk (h4.set_ne (b' := g5) (j := t) HN.out.2.1 (.int .u8 (s / 2 ^ (8 * t) % 256)))
      have HBn := Keep.mk (hB.setCell hge5 (p := ⟨g5, t, none⟩) (.int .u8 (s / 2 ^ (8 * t) % 256)))
      clear h5 h3 h4 hB
      generalize saltF s t t = z at *
      go_wp2
      go_roundw
      case rel => exact ⟨t + 1, by omega, by go_num, H5n.out, H3n.out, H4n.out, HBn.out⟩
      case measure => simp only [intOf]; omega
    · obtain rfl : t = 8 := by omega
      rw [show ((8 : Nat) : Int) = 8 from rfl]
      obtain ⟨w0, rfl⟩ : ∃ w0, w0 = wr := ⟨_, rfl⟩
      have HS5 := Keep.mk (row_arr h5)
      have HS3 : Keep (RowAt w0 (.slice (some ⟨g3, 0, none⟩) 32 32) (hl 32 x.f)) := ⟨row_arr (by rw [← Hch.out]; exact h3)⟩
      have H4 := Keep.mk h4
      have HB := Keep.mk hB
      clear h5 h3 h4 hB hlt ht
      obtain ⟨cm, Hcm⟩ : ∃ cm, Keep (cm = bytesA 32 (shaP (seedL s x))) := ⟨_, ⟨rfl⟩⟩
      have HIcm : Keep ((Try.prog.info? 27).map (·.size) = some cm.size) := ⟨by rw [Hcm.out]; exact Try.size27B _⟩
      have HOcm : Keep (cm.all (·.oneCell') = true) := ⟨by rw [Hcm.out]; exact bytesA_one _ _⟩
      have HZcm : Keep ((bytesA 32 fun _ => 0).size = cm.size) := ⟨by rw [Hcm.out]; exact bytesA_sizes _ _ _⟩
      go_wp2_with fail
      go_cut [7] from 22 to 25 (fun s7 wx => ∃ g7, s7 = ptr g7 ∧ Blk wx g7 27 cm ∧ Below w0.heap.size w0 wx ∧ w0.heap.size ≤ g7)
      case first =>
        have hD0 : Below w0.heap.size w0 w0.drew := (Below.refl _ _).drew
        refine wp_region_held_drew (S := fun _ => True) (by kernel_rfl) trivial (fun hHeld => ?_)
        generalize w0.drew = wd at *
        refine wpAnyH_take (i := 0) (oi := ⟨some 22, Op.slice 65 (Operand.tmp 5) none none none, 35, _, _, none⟩) (v := .slice (some ⟨g5, 0, none⟩) 8 8) rfl (by kernel_rfl) (by kernel_rfl) (by kernel_rfl) (fun _ _ _ h => h) (Or.inl ⟨by rfl, fun w hS => by go_simp⟩) hHeld ?_
        simp only [Act.put, List.setIfInBounds_toArray, List.set_cons_zero, List.set_cons_succ]
        refine wpAnyH_take (i := 1) (oi := ⟨some 23, Op.slice 27 (Operand.tmp 3) none none none, 35, _, _, none⟩) (v := .slice (some ⟨g3, 0, none⟩) 32 32) rfl (by kernel_rfl) (by kernel_rfl) (by kernel_rfl) (fun _ _ _ h => h) (Or.inl ⟨by rfl, fun w hS => by go_simp⟩) hHeld ?_
        simp only [Act.put, List.setIfInBounds_toArray, List.set_cons_zero, List.set_cons_succ]
        refine wpAnyH_ready (rs := [2, 4]) (by kernel_rfl) (by simp) ?_
        refine AllReadyH.cons (o := ⟨some 24, Op.buildSlice 39 2 #[(0, Operand.tmp 22), (1, Operand.tmp 23)], 39, _, _, none⟩) rfl (fun K hK => ?_) (AllReadyH.cons (o := ⟨some 7, Op.alloc 27, 0, _, _, none⟩) rfl (fun K hK => ?_) (AllReadyH.nil))
        all_goals rw [if_pos (by rfl)]
        · refine wp_bs 39 2 _ rfl #[(0, .slice (some ⟨g5, 0, none⟩) 8 8), (1, .slice (some ⟨g3, 0, none⟩) 32 32)] (by simp [Act.eval]) _ _ (Try.bs39 (some ⟨g5, 0, none⟩) (some ⟨g3, 0, none⟩) 8 8 32 32 wd) ?_
          have hk1 := Blk.new wd 35 #[.slice (some ⟨g5, 0, none⟩) 8 8, .slice (some ⟨g3, 0, none⟩) 32 32]
          have hb1 : Below w0.heap.size w0 (wd.alloc (.cells #[.slice (some ⟨g5, 0, none⟩) 8 8, .slice (some ⟨g3, 0, none⟩) 32 32] 35)) := hD0.alloc hD0.size _
          refine hK.out _ _ trivial fun hHeld => ?_
          clear hK
          simp only [Act.put, List.setIfInBounds_toArray, List.set_cons_zero, List.set_cons_succ]
          generalize wd.alloc (.cells #[.slice (some ⟨g5, 0, none⟩) 8 8, .slice (some ⟨g3, 0, none⟩) 32 32] 35) = v1 at *
          refine wpAnyH_ready (rs := [3, 4]) (by kernel_rfl) (by simp) ?_
          refine AllReadyH.cons (o := ⟨some 25, Op.call { callee := Callee.value (Operand.func 42), args := #[Operand.tmp 24], argTypes := #[39] }, 27, _, _, none⟩) rfl (fun K hK => ?_) (AllReadyH.cons (o := ⟨some 7, Op.alloc 27, 0, _, _, none⟩) rfl (fun K hK => ?_) (AllReadyH.nil))
          all_goals rw [if_pos (by rfl)]
          · refine wp_callF 42 _ _ rfl Try.in42 #[.slice (some ⟨wd.heap.size, 0, none⟩) 2 2] (by simp [Act.eval]) (fun vz wz => vz = .agg cm ∧ Below v1.heap.size v1 wz) ?_ ?_
            · refine (all_two hk1 (HS5.out.below (hb1)) (HS3.out.below (hb1)) (by rw [hl_len, hl_len]; omega)).mono ?_
              rintro e wz ⟨rfl, hbz⟩
              exact ⟨_, rfl, by rw [Hcm.out]; rfl, hbz⟩
            rintro vz v2 ⟨rfl, hc2⟩
            have hb2 : Below w0.heap.size w0 v2 := hb1.trans (hc2.mono hb1.size)
            refine hK.out _ _ trivial fun hHeld => ?_
            clear hK
            simp only [Act.put, List.setIfInBounds_toArray, List.set_cons_zero, List.set_cons_succ]
            refine wpAnyH_ready (rs := [4]) (by kernel_rfl) (by simp) ?_
            refine AllReadyH.cons (o := ⟨some 7, Op.alloc 27, 0, _, _, none⟩) rfl (fun K hK => ?_) (AllReadyH.nil)
            all_goals rw [if_pos (by rfl)]
            · refine wp_newA 27 rfl _ Try.new27 ?_
              have h7_3 := Blk.new v2 27 (bytesA 32 fun _ => 0)
              have hb3 : Below w0.heap.size w0 (v2.alloc (.cells (bytesA 32 fun _ => 0) 27)) := hb2.alloc hb2.size _
              have hge7 : w0.heap.size ≤ v2.heap.size := hb2.size
              refine hK.out _ _ trivial fun hHeld => ?_
              clear hK
              simp only [Act.put, List.setIfInBounds_toArray, List.set_cons_zero, List.set_cons_succ]
              generalize v2.alloc (.cells (bytesA 32 fun _ => 0) 27) = v3 at *
              refine wpAnyH_ready (rs := [5]) (by kernel_rfl) (by simp) ?_
              refine AllReadyH.cons (o := ⟨none, Op.store 27 (Operand.tmp 7) (Operand.tmp 25), 0, _, _, none⟩) rfl (fun K hK => ?_) (AllReadyH.nil)
              all_goals rw [if_pos (by rfl)]
              refine wp_store_row 27 (.tmp 7) (.tmp 25) rfl (v2.heap.size) cm rfl rfl 27 (bytesA 32 fun _ => 0) h7_3 HIcm.out HZcm.out HOcm.out ?_
              refine hK.out _ _ trivial fun _ => ?_
              clear hK
              simp only [Act.put]
              refine wpAnyH_done (by kernel_rfl) ?_ _
              go_wp2_with fail
              go_meet
              case rel => exact ⟨v2.heap.size, rfl, Blk.setRow h7_3 cm, below_setRow hb3 hge7 cm, hge7⟩
          · refine wp_newA 27 rfl _ Try.new27 ?_
            have h7_5 := Blk.new v1 27 (bytesA 32 fun _ => 0)
            have hb5 : Below w0.heap.size w0 (v1.alloc (.cells (bytesA 32 fun _ => 0) 27)) := hb1.alloc hb1.size _
            have hge7 : w0.heap.size ≤ v1.heap.size := hb1.size
            have hk5 := hk1.alloc (.cells (bytesA 32 fun _ => 0) 27)
            refine hK.out _ _ trivial fun hHeld => ?_
            clear hK
            simp only [Act.put, List.setIfInBounds_toArray, List.set_cons_zero, List.set_cons_succ]
            generalize v1.alloc (.cells (bytesA 32 fun _ => 0) 27) = v5 at *
            refine wpAnyH_ready (rs := [3]) (by kernel_rfl) (by simp) ?_
            refine AllReadyH.cons (o := ⟨some 25, Op.call { callee := Callee.value (Operand.func 42), args := #[Operand.tmp 24], argTypes := #[39] }, 27, _, _, none⟩) rfl (fun K hK => ?_) (AllReadyH.nil)
            all_goals rw [if_pos (by rfl)]
            · refine wp_callF 42 _ _ rfl Try.in42 #[.slice (some ⟨wd.heap.size, 0, none⟩) 2 2] (by simp [Act.eval]) (fun vz wz => vz = .agg cm ∧ Below v5.heap.size v5 wz) ?_ ?_
              · refine (all_two hk5 (HS5.out.below (hb5)) (HS3.out.below (hb5)) (by rw [hl_len, hl_len]; omega)).mono ?_
                rintro e wz ⟨rfl, hbz⟩
                exact ⟨_, rfl, by rw [Hcm.out]; rfl, hbz⟩
              rintro vz v6 ⟨rfl, hc6⟩
              have hb6 : Below w0.heap.size w0 v6 := hb5.trans (hc6.mono hb5.size)
              have h7_6 := h7_5.below hc6 h7_5.lt
              refine hK.out _ _ trivial fun hHeld => ?_
              clear hK
              simp only [Act.put, List.setIfInBounds_toArray, List.set_cons_zero, List.set_cons_succ]
              refine wpAnyH_ready (rs := [5]) (by kernel_rfl) (by simp) ?_
              refine AllReadyH.cons (o := ⟨none, Op.store 27 (Operand.tmp 7) (Operand.tmp 25), 0, _, _, none⟩) rfl (fun K hK => ?_) (AllReadyH.nil)
              all_goals rw [if_pos (by rfl)]
              refine wp_store_row 27 (.tmp 7) (.tmp 25) rfl (v1.heap.size) cm rfl rfl 27 (bytesA 32 fun _ => 0) h7_6 HIcm.out HZcm.out HOcm.out ?_
              refine hK.out _ _ trivial fun _ => ?_
              clear hK
              simp only [Act.put]
              refine wpAnyH_done (by kernel_rfl) ?_ _
              go_wp2_with fail
              go_meet
              case rel => exact ⟨v1.heap.size, rfl, Blk.setRow h7_6 cm, below_setRow hb6 hge7 cm, hge7⟩
        · refine wp_newA 27 rfl _ Try.new27 ?_
          have h7_8 := Blk.new wd 27 (bytesA 32 fun _ => 0)
          have hb8 : Below w0.heap.size w0 (wd.alloc (.cells (bytesA 32 fun _ => 0) 27)) := hD0.alloc hD0.size _
          have hge7 : w0.heap.size ≤ wd.heap.size := hD0.size
          refine hK.out _ _ trivial fun hHeld => ?_
          clear hK
          simp only [Act.put, List.setIfInBounds_toArray, List.set_cons_zero, List.set_cons_succ]
          generalize wd.alloc (.cells (bytesA 32 fun _ => 0) 27) = v8 at *
          refine wpAnyH_ready (rs := [2]) (by kernel_rfl) (by simp) ?_
          refine AllReadyH.cons (o := ⟨some 24, Op.buildSlice 39 2 #[(0, Operand.tmp 22), (1, Operand.tmp 23)], 39, _, _, none⟩) rfl (fun K hK => ?_) (AllReadyH.nil)
          all_goals rw [if_pos (by rfl)]
          · refine wp_bs 39 2 _ rfl #[(0, .slice (some ⟨g5, 0, none⟩) 8 8), (1, .slice (some ⟨g3, 0, none⟩) 32 32)] (by simp [Act.eval]) _ _ (Try.bs39 (some ⟨g5, 0, none⟩) (some ⟨g3, 0, none⟩) 8 8 32 32 v8) ?_
            have hk9 := Blk.new v8 35 #[.slice (some ⟨g5, 0, none⟩) 8 8, .slice (some ⟨g3, 0, none⟩) 32 32]
            have hb9 : Below w0.heap.size w0 (v8.alloc (.cells #[.slice (some ⟨g5, 0, none⟩) 8 8, .slice (some ⟨g3, 0, none⟩) 32 32] 35)) := hb8.alloc hb8.size _
            have h7_9 := h7_8.alloc (.cells #[.slice (some ⟨g5, 0, none⟩) 8 8, .slice (some ⟨g3, 0, none⟩) 32 32] 35)
            refine hK.out _ _ trivial fun hHeld => ?_
            clear hK
            simp only [Act.put, List.setIfInBounds_toArray, List.set_cons_zero, List.set_cons_succ]
            generalize v8.alloc (.cells #[.slice (some ⟨g5, 0, none⟩) 8 8, .slice (some ⟨g3, 0, none⟩) 32 32] 35) = v9 at *
            refine wpAnyH_ready (rs := [3]) (by kernel_rfl) (by simp) ?_
            refine AllReadyH.cons (o := ⟨some 25, Op.call { callee := Callee.value (Operand.func 42), args := #[Operand.tmp 24], argTypes := #[39] }, 27, _, _, none⟩) rfl (fun K hK => ?_) (AllReadyH.nil)
            all_goals rw [if_pos (by rfl)]
            · refine wp_callF 42 _ _ rfl Try.in42 #[.slice (some ⟨v8.heap.size, 0, none⟩) 2 2] (by simp [Act.eval]) (fun vz wz => vz = .agg cm ∧ Below v9.heap.size v9 wz) ?_ ?_
              · refine (all_two hk9 (HS5.out.below (hb9)) (HS3.out.below (hb9)) (by rw [hl_len, hl_len]; omega)).mono ?_
                rintro e wz ⟨rfl, hbz⟩
                exact ⟨_, rfl, by rw [Hcm.out]; rfl, hbz⟩
              rintro vz v10 ⟨rfl, hc10⟩
              have hb10 : Below w0.heap.size w0 v10 := hb9.trans (hc10.mono hb9.size)
              have h7_10 := h7_9.below hc10 h7_9.lt
              refine hK.out _ _ trivial fun hHeld => ?_
              clear hK
              simp only [Act.put, List.setIfInBounds_toArray, List.set_cons_zero, List.set_cons_succ]
              refine wpAnyH_ready (rs := [5]) (by kernel_rfl) (by simp) ?_
              refine AllReadyH.cons (o := ⟨none, Op.store 27 (Operand.tmp 7) (Operand.tmp 25), 0, _, _, none⟩) rfl (fun K hK => ?_) (AllReadyH.nil)
              all_goals rw [if_pos (by rfl)]
              refine wp_store_row 27 (.tmp 7) (.tmp 25) rfl (wd.heap.size) cm rfl rfl 27 (bytesA 32 fun _ => 0) h7_10 HIcm.out HZcm.out HOcm.out ?_
              refine hK.out _ _ trivial fun _ => ?_
              clear hK
              simp only [Act.put]
              refine wpAnyH_done (by kernel_rfl) ?_ _
              go_wp2_with fail
              go_meet
              case rel => exact ⟨wd.heap.size, rfl, Blk.setRow h7_10 cm, below_setRow hb10 hge7 cm, hge7⟩
      case rest =>
        obtain ⟨g7, hs7, h7, hb7, hge7⟩ := hcut
        subst hs7
        obtain ⟨w1, rfl⟩ : ∃ w1, w1 = wc := ⟨_, rfl⟩
        have H7 := Keep.mk h7
        have H4a := Keep.mk (H4.out.below hb7 H4.out.lt)
        have HBa := Keep.mk (HB.out.trans (hb7.mono HB.out.size))
        have hn47 : g4 ≠ g7 := by have := H4.out.lt; omega
        clear h7 hb7 H4 HB HS5 HS3 hge7
        go_wp2_with (first | (refine wpList_new rfl 61 rfl _ Try.new61 ?_; refine Hid.out ?_))
        refine hid_in ?_
        have H8 := Keep.mk (Blk.new w1 61 (u64A fun _ => 0))
        have HBb := Keep.mk (HBa.out.alloc HBa.out.size (.cells (u64A fun _ => 0) 61))
        have H7b := Keep.mk (H7.out.alloc (.cells (u64A fun _ => 0) 61))
        have H4b := Keep.mk (H4a.out.alloc (.cells (u64A fun _ => 0) 61))
        obtain ⟨g8, hg8⟩ : ∃ g, Keep (g = w1.heap.size) := ⟨_, ⟨rfl⟩⟩
        have hl7 := H7.out.lt
        have hl4 := H4a.out.lt
        have hge8 : w.heap.size ≤ g8 := by rw [hg8.out]; exact HBa.out.size
        rw [← hg8.out] at H8 hl7 hl4 ⊢
        generalize w1.alloc (.cells (u64A fun _ => 0) 61) = w2 at *
        have HN8 := Keep.mk (show g7 ≠ g8 ∧ g4 ≠ g8 by omega)
        clear H7 H4a HBa hl7 hl4 hg8
        have HC : Keep (∀ i, 0 ≤ shaP (seedL s x) i ∧ shaP (seedL s x) i < 256) := ⟨shaP_rng _⟩
        have HM : Keep (∀ i, i < 32 → cm[i]? = some (.int .u8 (shaP (seedL s x) i))) := ⟨fun i hi => by rw [Hcm.out]; exact bytesA_get _ _ _ hi⟩
        have HNM : Keep (u64A (numF (shaP (seedL s x)) 4) = u64A (nums s x)) := ⟨numF_nums s x⟩
        obtain ⟨c, hc⟩ : ∃ c, shaP (seedL s x) = c := ⟨_, rfl⟩
        rw [hc] at HC HM HNM
        go_wp2_with fail
        go_loopw [26] (fun i wr => ∃ t : Nat, t ≤ 4 ∧ i = .int .i64 t ∧ Blk wr g8 61 (u64A (numF c t)) ∧ Blk wr g7 27 cm ∧ Blk wr g4 61 (u64A fun _ => 0) ∧ Below w.heap.size w wr) (fun i _ => 4 - (intOf i).toNat)
        case atStart => exact ⟨0, by omega, rfl, (show numF c 0 = fun _ => 0 from funext fun i => by simp [numF]) ▸ H8.out, H7b.out, H4b.out, HBb.out⟩
        case round =>
          clear H8 H7b H4b HBb
          obtain ⟨t, ht, rfl, h8, h7, h4, hB⟩ := hrel
          by_cases hlt : t < 4
          · have hlt' : (t : Int) < 4 := by omega
            rw [← numU_zero] at h8
            have H8 := Keep.mk h8
            have H7 := Keep.mk h7
            have H4 := Keep.mk h4
            have HB := Keep.mk hB
            clear h8 h7 h4 hB
            go_wp2_with fail
            go_loopw [29] (fun i wr => ∃ k : Nat, k ≤ 8 ∧ i = .int .i64 k ∧ Blk wr g8 61 (u64A (numU c t k)) ∧ Blk wr g7 27 cm ∧ Blk wr g4 61 (u64A fun _ => 0) ∧ Below w.heap.size w wr) (fun i _ => 8 - (intOf i).toNat)
            case atStart => exact ⟨0, by omega, rfl, H8.out, H7.out, H4.out, HB.out⟩
            case round =>
              clear H8 H7 H4 HB
              obtain ⟨k, hk, rfl, h8, h7, h4, hB⟩ := hrel
              by_cases hkl : k < 8
              · have hkl' : (k : Int) < 8 := by omega
                obtain ⟨y, hy⟩ : ∃ y, lsum c t k = y := ⟨_, rfl⟩
                obtain ⟨z, hz⟩ : ∃ z, c (8 * t + k) = z := ⟨_, rfl⟩
                have hyr := lsum_rng c HC.out t k
                have hzr := HC.out (8 * t + k)
                have hor := or_next y z k hkl (hy ▸ hyr) (hz ▸ hzr)
                have hc8 : wr.drew.cell? ⟨g8, t, none⟩ = some (.int .u64 y) := by
                  rw [h8.drew.cell, u64A_get _ _ hlt]
                  simp [numU, hy]
                have hc7 : wr.drew.cell? ⟨g7, 8 * t + k, none⟩ = some (.int .u8 z) := by
                  rw [h7.drew.cell, HM.out _ (by omega), hz]
                have H8n := Keep.mk (h8.drew.set t (.int .u64 (y + z * 2 ^ (8 * k))))
                rw [u64A_set, ← hy, ← hz, numU_next c t k, hy, hz] at H8n
                have H7n := Keep.mk (h7.drew.set_ne (b' := g8) (j := t) HN8.out.1 (.int .u64 (y + z * 2 ^ (8 * k))))
                have H4n := Keep.mk (h4.drew.set_ne (b' := g8) (j := t) HN8.out.2 (.int .u64 (y + z * 2 ^ (8 * k))))
                have HBn := Keep.mk ((hB.drew).setCell hge8 (p := ⟨g8, t, none⟩) (.int .u64 (y + z * 2 ^ (8 * k))))
                have ff : wr.drew.frozen? ⟨g8, t, none⟩ = false := h8.drew.frozen t
                rw [hz] at hzr
                obtain ⟨j, hj⟩ : ∃ j, Keep (j = 8 * t + k) := ⟨_, ⟨rfl⟩⟩
                have hj32 : (j : Int) < 32 := by rw [hj.out]; omega
                have hw1 : IntKind.i64.wrap (8 * (t : Int)) = 8 * (t : Int) := by rw [IntKind.wrap_i64]; omega
                have hw2 : IntKind.i64.wrap (8 * (t : Int) + (k : Int)) = (j : Int) := by rw [IntKind.wrap_i64, hj.out]; omega
                have hw3 : IntKind.i64.wrap (8 * (k : Int)) = 8 * (k : Int) := by rw [IntKind.wrap_i64]; omega
                rw [← hj.out] at hc7
                have h8k : (8 * (k : Int)).toNat = 8 * k := by omega
                have hz64 : IntKind.u64.wrap z = z := by rw [IntKind.wrap_u64]; omega
                have hp56 : (2 : Int) ^ (8 * k) ≤ 72057594037927936 := by
                  have h : ∀ k : Fin 8, (2 : Int) ^ (8 * k.val) ≤ 72057594037927936 := by decide
                  exact h ⟨k, hkl⟩
                have hsh : IntKind.u64.wrap (z * 2 ^ (8 * k)) = z * 2 ^ (8 * k) := by
                  have h1 : 0 ≤ z * 2 ^ (8 * k) := Int.mul_nonneg hzr.1 (Int.le_of_lt (Int.pow_pos (by omega)))
                  have h2 : z * 2 ^ (8 * k) ≤ 255 * 72057594037927936 := Int.mul_le_mul (by omega) hp56 (Int.le_of_lt (Int.pow_pos (by omega))) (by omega)
                  rw [IntKind.wrap_u64]; omega
                have h7x : Keep ((wr.drew.setCell ⟨g8, t, none⟩ (.int .u64 (y + z * 2 ^ (8 * k)))).cell? ⟨g7, j, none⟩ = some (.int .u8 z)) := ⟨by rw [H7n.out.cell, HM.out _ (by rw [hj.out]; omega), hj.out, hz]⟩
                clear h8 h7 h4 hB hy hz hyr hp56
                go_wp2_with fail
                refine wp_region_held_drew (S := fun wx => wx.cell? ⟨g7, j, none⟩ = some (.int .u8 z)) (by kernel_rfl) hc7 (fun hHeld => ?_)
                generalize wr.drew = wd at *
                refine wpAnyH_take (i := 0) (oi := ⟨some 32, Op.move (Operand.tmp 9), 3, _, _, none⟩) (v := .int .i64 (t : Int)) rfl (by kernel_rfl) (by kernel_rfl) (by kernel_rfl) (fun _ _ _ h => h) (Or.inl ⟨by rfl, fun w hS => by go_simp⟩) hHeld ?_
                simp only [Act.put, List.setIfInBounds_toArray, List.set_cons_zero, List.set_cons_succ]
                refine wpAnyH_take (i := 1) (oi := ⟨some 33, Op.indexAddr 61 (Operand.tmp 8) (Operand.tmp 32), 0, _, _, none⟩) (v := .pointer (some ⟨g8, t, none⟩)) rfl (by kernel_rfl) (by kernel_rfl) (by kernel_rfl) (fun _ _ _ h => h) (Or.inl ⟨by rfl, fun w hS => by go_simp⟩) hHeld ?_
                simp only [Act.put, List.setIfInBounds_toArray, List.set_cons_zero, List.set_cons_succ]
                refine wpAnyH_take (i := 3) (oi := ⟨some 35, Op.move (Operand.tmp 9), 3, _, _, none⟩) (v := .int .i64 (t : Int)) rfl (by kernel_rfl) (by kernel_rfl) (by kernel_rfl) (fun _ _ _ h => h) (Or.inl ⟨by rfl, fun w hS => by go_simp⟩) hHeld ?_
                simp only [Act.put, List.setIfInBounds_toArray, List.set_cons_zero, List.set_cons_succ]
                refine wpAnyH_take (i := 4) (oi := ⟨some 36, Op.binOp BinOp.mul 3 (Operand.const (Value.int IntKind.i64 8)) (Operand.tmp 35) 3, 3, _, _, none⟩) (v := .int .i64 (8 * (t : Int))) rfl (by kernel_rfl) (by kernel_rfl) (by kernel_rfl) (fun _ _ _ h => h) (Or.inl ⟨by rfl, fun w hS => by go_simp⟩) hHeld ?_
                simp only [Act.put, List.setIfInBounds_toArray, List.set_cons_zero, List.set_cons_succ]
                refine wpAnyH_take (i := 5) (oi := ⟨some 37, Op.move (Operand.tmp 10), 3, _, _, none⟩) (v := .int .i64 (k : Int)) rfl (by kernel_rfl) (by kernel_rfl) (by kernel_rfl) (fun _ _ _ h => h) (Or.inl ⟨by rfl, fun w hS => by go_simp⟩) hHeld ?_
                simp only [Act.put, List.setIfInBounds_toArray, List.set_cons_zero, List.set_cons_succ]
                refine wpAnyH_take (i := 6) (oi := ⟨some 38, Op.binOp BinOp.add 3 (Operand.tmp 36) (Operand.tmp 37) 3, 3, _, _, none⟩) (v := .int .i64 (j : Int)) rfl (by kernel_rfl) (by kernel_rfl) (by kernel_rfl) (fun _ _ _ h => h) (Or.inl ⟨by rfl, fun w hS => by go_simp⟩) hHeld ?_
                simp only [Act.put, List.setIfInBounds_toArray, List.set_cons_zero, List.set_cons_succ]
                refine wpAnyH_take (i := 7) (oi := ⟨some 39, Op.indexAddr 27 (Operand.tmp 7) (Operand.tmp 38), 0, _, _, none⟩) (v := .pointer (some ⟨g7, j, none⟩)) rfl (by kernel_rfl) (by kernel_rfl) (by kernel_rfl) (fun _ _ _ h => h) (Or.inl ⟨by rfl, fun w hS => by go_simp⟩) hHeld ?_
                simp only [Act.put, List.setIfInBounds_toArray, List.set_cons_zero, List.set_cons_succ]
                refine wpAnyH_take (i := 8) (oi := ⟨some 40, Op.load 5 (Operand.tmp 39), 5, _, _, none⟩) (v := .int .u8 z) rfl (by kernel_rfl) (by kernel_rfl) (by kernel_rfl) (fun _ _ _ h => h) (Or.inl ⟨by rfl, fun w hS => by go_simp⟩) hHeld ?_
                simp only [Act.put, List.setIfInBounds_toArray, List.set_cons_zero, List.set_cons_succ]
                refine wpAnyH_take (i := 9) (oi := ⟨some 41, Op.convert 5 25 (Operand.tmp 40), 25, _, _, none⟩) (v := .int .u64 z) rfl (by kernel_rfl) (by kernel_rfl) (by kernel_rfl) (fun _ _ _ h => h) (Or.inl ⟨by rfl, fun w hS => by go_simp⟩) hHeld ?_
                simp only [Act.put, List.setIfInBounds_toArray, List.set_cons_zero, List.set_cons_succ]
                refine wpAnyH_take (i := 10) (oi := ⟨some 42, Op.move (Operand.tmp 10), 3, _, _, none⟩) (v := .int .i64 (k : Int)) rfl (by kernel_rfl) (by kernel_rfl) (by kernel_rfl) (fun _ _ _ h => h) (Or.inl ⟨by rfl, fun w hS => by go_simp⟩) hHeld ?_
                simp only [Act.put, List.setIfInBounds_toArray, List.set_cons_zero, List.set_cons_succ]
                refine wpAnyH_take (i := 11) (oi := ⟨some 43, Op.binOp BinOp.mul 3 (Operand.const (Value.int IntKind.i64 8)) (Operand.tmp 42) 3, 3, _, _, none⟩) (v := .int .i64 (8 * (k : Int))) rfl (by kernel_rfl) (by kernel_rfl) (by kernel_rfl) (fun _ _ _ h => h) (Or.inl ⟨by rfl, fun w hS => by go_simp⟩) hHeld ?_
                simp only [Act.put, List.setIfInBounds_toArray, List.set_cons_zero, List.set_cons_succ]
                refine wpAnyH_take (i := 12) (oi := ⟨some 44, Op.binOp BinOp.shl 25 (Operand.tmp 41) (Operand.tmp 43) 3, 25, _, _, none⟩) (v := .int .u64 (z * 2 ^ (8 * k))) rfl (by kernel_rfl) (by kernel_rfl) (by kernel_rfl) (fun _ _ _ h => h) (Or.inl ⟨by rfl, fun w hS => by go_simp⟩) hHeld ?_
                simp only [Act.put, List.setIfInBounds_toArray, List.set_cons_zero, List.set_cons_succ]
                refine wpAnyH_ready (rs := [2]) (by kernel_rfl) (by simp) ?_
                refine AllReadyH.cons (o := ⟨some 34, Op.load 25 (Operand.tmp 33), 25, _, _, none⟩) rfl (fun K hK => ?_) (AllReadyH.nil)
                all_goals rw [if_pos (by rfl)]
                refine wp_val (.int .u64 y) (by go_simp) ?_
                refine hK.out _ _ hHeld fun hHeld => ?_
                clear hK
                simp only [Act.put, List.setIfInBounds_toArray, List.set_cons_zero, List.set_cons_succ]
                refine wpAnyH_take (i := 13) (oi := ⟨some 45, Op.binOp BinOp.or 25 (Operand.tmp 34) (Operand.tmp 44) 25, 25, _, _, none⟩) (v := .int .u64 (y + z * 2 ^ (8 * k))) rfl (by kernel_rfl) (by kernel_rfl) (by kernel_rfl) (fun _ _ _ h => h) (Or.inl ⟨by rfl, fun w hS => by go_simp⟩) hHeld ?_
                simp only [Act.put, List.setIfInBounds_toArray, List.set_cons_zero, List.set_cons_succ]
                refine wpAnyH_take (i := 14) (oi := ⟨some 46, Op.indexAddr 61 (Operand.tmp 8) (Operand.tmp 32), 0, _, _, none⟩) (v := .pointer (some ⟨g8, t, none⟩)) rfl (by kernel_rfl) (by kernel_rfl) (by kernel_rfl) (fun _ _ _ h => h) (Or.inl ⟨by rfl, fun w hS => by go_simp⟩) hHeld ?_
                simp only [Act.put, List.setIfInBounds_toArray, List.set_cons_zero, List.set_cons_succ]
                refine wpAnyH_ready (rs := [15]) (by kernel_rfl) (by simp) ?_
                refine AllReadyH.cons (o := ⟨none, Op.store 25 (Operand.tmp 46) (Operand.tmp 45), 0, _, _, none⟩) rfl (fun K hK => ?_) (AllReadyH.nil)
                all_goals rw [if_pos (by rfl)]
                go_simp
                refine hK.out _ _ (h7x.out) fun _ => ?_
                clear hK
                refine wpAnyH_done (by kernel_rfl) ?_ _
                generalize wd.setCell ⟨g8, t, none⟩ (.int .u64 (y + z * 2 ^ (8 * k))) = we at *
                clear hc8 hc7 ff hHeld h7x
                go_wp2
                go_roundw
                case rel => exact ⟨k + 1, by omega, by go_num, H8n.out, H7n.out, H4n.out, HBn.out⟩
                case measure => simp only [intOf]; omega
              · obtain rfl : k = 8 := by omega
                rw [show ((8 : Nat) : Int) = 8 from rfl]
                have H8 := Keep.mk (numU_full c t ▸ h8)
                have H7 := Keep.mk h7
                have H4 := Keep.mk h4
                have HB := Keep.mk hB
                clear h8 h7 h4 hB
                go_wp2
                go_roundw
                case rel => exact ⟨t + 1, by omega, by go_num, H8.out, H7.out, H4.out, HB.out⟩
                case measure => simp only [intOf]; omega
          · obtain rfl : t = 4 := by omega
            rw [show ((4 : Nat) : Int) = 4 from rfl]
            have H8 := Keep.mk (HNM.out ▸ h8)
            have H4 := Keep.mk h4
            have HB := Keep.mk hB
            clear h8 h7 h4 hB HNM HM HC Hcm HOcm HIcm HZcm
            obtain ⟨cn, Hcn⟩ : ∃ cn, Keep (cn = u64A (nums s x)) := ⟨_, ⟨rfl⟩⟩
            have HIcn : Keep ((Try.prog.info? 61).map (·.size) = some cn.size) := ⟨by rw [Hcn.out]; exact Try.size61U _⟩
            have HOcn : Keep (cn.all (·.oneCell') = true) := ⟨by rw [Hcn.out]; exact u64A_one _⟩
            have HZcn : Keep ((u64A fun _ => 0).size = cn.size) := ⟨by rw [Hcn.out, u64A_size, u64A_size]⟩
            rw [← Hcn.out] at H8
            go_wp2_with (first | (refine wpList_load_row rfl 61 (.tmp 8) rfl g8 rfl 61 cn (0, 0) (.array 4 25) H8.out Try.underlying61 rfl HIcn.out ?_) | (refine wpList_store_row rfl 61 (.tmp 4) (.tmp 49) rfl g4 cn rfl rfl 61 (u64A fun _ => 0) H4.out HIcn.out HZcn.out HOcn.out ?_))
            exact bodyPost_ret (v := .agg cn) (results_cell_row Try.results39 _ _ g4 61 _ (0, 0) _ rfl (H4.out.setRow cn) Try.underlying61 rfl HIcn.out) rfl ⟨by rw [Hcn.out], below_setRow HB.out hge4 cn⟩

end Go.Proofs.Ytfheinghkigocaa
namespace Go.Proofs.Ytfheinghkigocaa
open Go.RowKit
set_option linter.unusedSimpArgs false
set_option linter.unusedVariables false

/-! ### Rows of numbers. -/
def iv (l : List Int) : List Value := l.map fun c => .int .i64 c
theorem iv_len (l : List Int) : (iv l).length = l.length := by simp [iv]
theorem iv_get (l : List Int) (i : Nat) (h : i < l.length) : (iv l)[i]? = some (.int .i64 (l.getD i 0)) := by
  simp [iv, h, List.getD]
theorem iv_app (a b : List Int) : iv (a ++ b) = iv a ++ iv b := by simp [iv]
theorem iv_one (l : List Int) : ∀ u ∈ iv l, u.oneCell' = true := fun u hu => by simp [iv] at hu; obtain ⟨_, _, rfl⟩ := hu; rfl
theorem iv_set (l : List Int) (t : Nat) (c : Int) : (iv l).set t (.int .i64 c) = iv (l.set t c) := by simp [iv, List.map_set]
def OwnJ (w : World) (v : Value) (l : List Int) : Prop :=
  (v = .slice none 0 0 ∧ l = []) ∨ ∃ g cap cur T, v = .slice (some ⟨g, 0, none⟩) l.length cap ∧ Blk w g T cur ∧ (T = 3 ∨ T = 51 ∧ l.length = cap) ∧ l.length ≤ cap ∧ cap ≤ maxLen ∧ cur.size = cap ∧ cur.toList.take l.length = iv l
theorem ownJ_nil (w : World) : OwnJ w (.slice none 0 0) [] := .inl ⟨rfl, rfl⟩
theorem OwnJ.sl {w : World} {v : Value} {l : List Int} (h : OwnJ w v l) : ∃ a c, v = .slice a l.length c := by
  rcases h with ⟨rfl, rfl⟩ | ⟨g, cap, cur, T, rfl, _⟩
  · exact ⟨_, _, rfl⟩
  · exact ⟨_, _, rfl⟩
theorem take_getJ {cur : Array Value} {l : List Int} {n : Nat} (h : cur.toList.take n = iv l) (hl : l.length = n) (t : Nat) (ht : t < n) : cur[t]? = some (.int .i64 (l.getD t 0)) := by
  have h2 : (cur.toList.take n)[t]? = some (.int .i64 (l.getD t 0)) := by rw [h, iv_get _ _ (by omega)]
  rw [List.getElem?_take, if_pos ht, Array.getElem?_toList] at h2
  exact h2
theorem OwnJ.at {w : World} {a : Option Addr} {n c : Nat} {l : List Int} (h : OwnJ w (.slice a n c) l) {i : Nat} (hi : i < l.length) : ∃ b, a = some ⟨b, 0, none⟩ ∧ w.cell? ⟨b, i, none⟩ = some (.int .i64 (l.getD i 0)) ∧ w.frozen? ⟨b, i, none⟩ = false ∧ b < w.heap.size := by
  rcases h with ⟨_, rfl⟩ | ⟨g, cap, cur, T, e, hg, _, _, _, _, ht⟩
  · simp at hi
  · injection e with e1 e2 e3
    exact ⟨g, e1, by rw [hg.cell, take_getJ ht rfl i hi], hg.frozen i, hg.lt⟩
theorem OwnJ.lt {w : World} {v : Value} {l : List Int} (h : OwnJ w v l) : ∀ k, v.ownBlock = some k → k < w.heap.size := fun k hk => by
  rcases h with ⟨rfl, rfl⟩ | ⟨g, cap, cur, T, rfl, hg, _⟩
  · simp [Value.ownBlock] at hk
  · simp [Value.ownBlock] at hk; subst hk; exact hg.lt
theorem OwnJ.grown {w w' : World} {v : Value} {l : List Int} {S : Nat → Prop} (h : OwnJ w v l) (hg : Grown w w' S) (hs : ∀ k, v.ownBlock = some k → ¬ S k) : OwnJ w' v l := by
  rcases h with h | ⟨g, cap, cur, T, rfl, hb, h2⟩
  · exact .inl h
  · exact .inr ⟨g, cap, cur, T, rfl, hg.blk hb (hs g rfl), h2⟩
theorem OwnJ.below {w w' : World} {v : Value} {l : List Int} (h : OwnJ w v l) (hb : Below w.heap.size w w') : OwnJ w' v l := h.grown (Grown.below (S := fun _ => False) hb) fun _ _ h => h
theorem OwnJ.ne {w : World} {v : Value} {l : List Int} (h : OwnJ w v l) {g : Nat} {T : TypeId} {cs : Array Value} (hg : Blk w g T cs) (hT : T ≠ 3 ∧ T ≠ 51) : v.ownBlock ≠ some g := fun e => by
  rcases h with ⟨rfl, rfl⟩ | ⟨g', cap, cur, T', rfl, hb, hq, _⟩
  · simp [Value.ownBlock] at e
  · simp [Value.ownBlock] at e
    subst e
    have := blk_type hg hb
    rcases hq with h | ⟨h, _⟩
    · exact hT.1 (this.trans h)
    · exact hT.2 (this.trans h)
theorem OwnJ.set {w : World} {g n cap : Nat} {l : List Int} (h : OwnJ w (.slice (some ⟨g, 0, none⟩) n cap) l) (t : Nat) (c : Int) : OwnJ (w.setCell ⟨g, t, none⟩ (.int .i64 c)) (.slice (some ⟨g, 0, none⟩) n cap) (l.set t c) := by
  rcases h with ⟨e, _⟩ | ⟨g', cap', cur, T, e, hg, hT, h1, h2, h3, h4⟩
  · cases e
  · injection e with e1 e2 e3
    injection e1 with e1
    injection e1 with e1
    subst e1 e2 e3
    refine .inr ⟨g, cap, cur.setIfInBounds t (.int .i64 c), T, by rw [List.length_set], hg.set t _, by rw [List.length_set]; exact hT, by rw [List.length_set]; exact h1, h2, by simp [h3], ?_⟩
    rw [Array.toList_setIfInBounds, List.length_set, List.take_set, h4, iv_set]
theorem OwnJ.setNe {w : World} {v : Value} {l : List Int} (h : OwnJ w v l) {g : Nat} (hg : v.ownBlock ≠ some g) (t : Nat) (c : Value) : OwnJ (w.setCell ⟨g, t, none⟩ c) v l :=
  h.grown (Grown.setCell w g t c (S := fun k => k = g) fun _ => rfl) fun _ hk e => hg (e ▸ hk)
theorem Try.info3 : (Try.prog.info? 3).map (fun i => (i.zero, i.size, i.bytes)) = some (some (.int .i64 0), 1, 8) := by kernel_rfl
def AppPostJ (w : World) (v : Value) (l : List Int) (v' : Value) (w' : World) : Prop :=
  OwnJ w' v' l ∧ ((v'.ownBlock = v.ownBlock ∧ (Grown w w' fun k => v.ownBlock = some k) ∧ ∀ a n c, v = .slice a n c → n < c) ∨ (v'.ownBlock = some w.heap.size ∧ Below w.heap.size w w'))
theorem AppPostJ.grown {w w' : World} {v v' : Value} {l : List Int} (h : AppPostJ w v l v' w') : Grown w w' fun k => v.ownBlock = some k := by
  rcases h.2 with h | h
  · exact h.2.1
  · exact Grown.below h.2
theorem run_appJ (w : World) (ty : TypeId) (v : Value) (l : List Int) (hown : OwnJ w v l) (g1 : Nat) (m : Int) (hc : w.cell? ⟨g1, 0, none⟩ = some (.int .i64 m)) (hb : l.length + 1 ≤ 1000000) :
    ∃ v' w', (Builtin.append_ #[28, 28] ty #[v, .slice (some ⟨g1, 0, none⟩) 1 1]).run Try.prog w = .ok v' w' ∧ AppPostJ w v (l ++ [m]) v' w' := by
  obtain ⟨i, hi, hzz⟩ := Option.map_eq_some_iff.1 Try.info3
  simp only [Prod.mk.injEq] at hzz
  obtain ⟨hz, hsz, hby⟩ := hzz
  have hnews : ∀ j u, (iv [m])[j]? = some u → w.cell? ((⟨g1, 0, none⟩ : Addr).add j) = some u := fun j u hu => by
    cases j with
    | zero => simp [iv] at hu; subst hu; exact hc
    | succ j => simp [iv] at hu
  rcases hown with ⟨rfl, rfl⟩ | ⟨g, cap, cur, T, rfl, hg, hT, hnc, hcm, hcs, htake⟩
  · have hr := run_append_nil (P := Try.prog) w 28 ty 3 i (.int .i64 0) Try.underlying28 hi hz ⟨g1, 0, none⟩ 1 1 (iv [m]) (by rw [iv_len, hsz]; rfl) hnews (by omega) (by omega) (by omega)
    have hge := grownCap_ge w 1 0 3
    refine ⟨_, _, hr, .inr ⟨w.heap.size, grownCap w 1 0 3, _, 3, rfl, Blk.new w.drew 3 _, .inl rfl, hge, grownCap_le_maxLen w _ _ _ (by unfold maxLen; omega), ?_, ?_⟩, .inr ⟨rfl, ⟨rfl, rfl, rfl, by simp, fun k hk => Below.heap_alloc w.drew _ k hk⟩⟩⟩
    · simp [iv, Builtin.zeroCells, Value.cells]; omega
    · simp [iv]
  · by_cases hroom : l.length + 1 ≤ cap
    · obtain rfl : T = 3 := hT.elim id fun h => absurd h.2 (by omega)
      have hcell : (w.cell? ⟨g, l.length, none⟩).isSome = true := by
        rw [hg.cell, Array.getElem?_eq_getElem (by omega)]; rfl
      have hr := run_append_room_cells (P := Try.prog) w 28 ty 3 i Try.underlying28 hi g 0 l.length cap ⟨g1, 0, none⟩ 1 1 (iv [m]) (by rw [iv_len, hsz]; rfl) hnews (iv_one _) hroom
        (fun j hj => by
          have e : j = 0 := by rw [iv_len] at hj; simpa using hj
          subst e; rw [hsz]; simpa using hcell)
        (fun j hj => by
          have e : j = 0 := by rw [iv_len] at hj; simpa using hj
          subst e; rw [hsz]; simpa using hg.frozen l.length)
      have e : w.setCells g (0 + l.length * i.size) (iv [m]) = w.setCell ⟨g, l.length, none⟩ (.int .i64 m) := by
        rw [hsz, Nat.mul_one, Nat.zero_add]; rfl
      rw [e] at hr
      refine ⟨_, _, hr, .inr ⟨g, cap, cur.setIfInBounds l.length (.int .i64 m), 3, by simp, hg.set _ _, .inl rfl, by simpa using hroom, hcm, by simp [hcs], ?_⟩, .inl ⟨rfl, Grown.setCell w g _ _ fun _ => rfl, fun a n c e => by injection e with e1 e2 e3; omega⟩⟩
      have hlt9 : l.length < cur.toList.length := by simp; omega
      rw [Array.toList_setIfInBounds, List.length_append, List.length_singleton, iv_app, ← htake, take_set_next cur.toList l.length (.int .i64 m) hlt9]
      rfl
    · have holds : ∀ j u, (iv l)[j]? = some u → w.cell? ((⟨g, 0, none⟩ : Addr).add j) = some u := fun j u hu => by
        have hj : j < l.length := by have := (List.getElem?_eq_some_iff.1 hu).1; rwa [iv_len] at this
        rw [iv_get l j hj] at hu
        rw [Addr.add_mid, Nat.zero_add, hg.cell, take_getJ htake rfl j hj]; exact hu
      have hr2 := run_append_grow (P := Try.prog) w 28 ty 3 i (.int .i64 0) Try.underlying28 hi hz ⟨g, 0, none⟩ l.length cap (iv l) (by rw [iv_len, hsz]; omega) holds ⟨g1, 0, none⟩ 1 1 (iv [m]) (by rw [iv_len, hsz]; rfl) hnews (by omega) (by omega) (by rw [hby]; exact growslice_fits (by omega) (by omega))
      have hge := grownCap_ge w (l.length + 1) cap 3
      refine ⟨_, _, hr2, .inr ⟨w.heap.size, grownCap w (l.length + 1) cap 3, _, 3, by simp, Blk.new w.drew 3 _, .inl rfl, by simpa using hge, grownCap_le_maxLen w _ _ _ (by unfold maxLen; omega), ?_, ?_⟩, .inr ⟨rfl, ⟨rfl, rfl, rfl, by simp, fun k hk => Below.heap_alloc w.drew _ k hk⟩⟩⟩
      · simp [iv, Builtin.zeroCells, Value.cells]; omega
      · rw [List.length_append, List.length_singleton, Array.toList_append, List.take_append_of_le_length (by simp [iv])]
        rw [List.take_of_length_le (by simp [iv])]
        simp [iv]
theorem wpList_appJ {ops : Array Oper} {rest : List Oper} {o : Oper} {a : Act} {w : World} {Q : Exit → Act → World → Prop} (hgd : o.guard = none) (s x : Operand)
    (ho : o.op = .call { callee := .builtin .append, args := #[s, x], argTypes := #[28, 28] }) (v : Value) (l : List Int) (g1 : Nat) (m : Int)
    (hs : a.eval s = v) (hx : a.eval x = .slice (some ⟨g1, 0, none⟩) 1 1) (hown : OwnJ w v l) (hc : w.cell? ⟨g1, 0, none⟩ = some (.int .i64 m)) (hb : l.length + 1 ≤ 1000000)
    (h : ∀ v' w', AppPostJ w v (l ++ [m]) v' w' → wpList Try.prog ops Q rest (a.put o.dst v') w') : wpList Try.prog ops Q (o :: rest) a w := by
  refine wpList_plain hgd fun K hK => ?_
  obtain ⟨v', w', hr, h2⟩ := run_appJ w o.type v l hown g1 m hc hb
  unfold Oper.wp execOp
  simp only [ho, resolve, invoke, builtin, Sem.run_bind, Sem.run_pure, Result.andThen_ok, List.map_toArray, List.map_cons, List.map_nil, hs, hx, hr]
  exact hK _ _ (h v' w' h2)
end Go.Proofs.Ytfheinghkigocaa
namespace Go.Proofs.Ytfheinghkigocaa
open Go.RowKit
set_option linter.unusedSimpArgs false
set_option linter.unusedVariables false

theorem Try.in39 (w : World) (vs : Array Value) : (callFunc 39 vs).run Try.prog w = .ok (.enter 39 vs) w := by kernel_rfl
theorem Try.in32 (w : World) (vs : Array Value) : (callFunc 32 vs).run Try.prog w = .ok (.enter 32 vs) w := by kernel_rfl
theorem Try.in31 (w : World) (vs : Array Value) : (callFunc 31 vs).run Try.prog w = .ok (.enter 31 vs) w := by kernel_rfl

/-- The places of a hash. -/
def plc (s : Int) (x : Hs) (n : Int) : Nat → Int := fun i => nums s x i % (8 * n)
def plF (s : Int) (x : Hs) (n : Int) (t : Nat) : Nat → Int := fun i => if i < t then plc s x n i else 0
def plcL (s : Int) (x : Hs) (n : Int) : List Int := (List.range 4).map (plc s x n)
theorem plcL_len (s : Int) (x : Hs) (n : Int) : (plcL s x n).length = 4 := by simp [plcL]
theorem plcL_get (s : Int) (x : Hs) (n : Int) (i : Nat) (hi : i < 4) : (plcL s x n).getD i 0 = plc s x n i := by simp [plcL, List.getD_eq_getElem?_getD, hi]
theorem plc_rng (s : Int) (x : Hs) (n : Int) (hn : 8 ≤ n) (i : Nat) : 0 ≤ plc s x n i ∧ plc s x n i < 8 * n := by
  unfold plc
  exact ⟨Int.emod_nonneg _ (by omega), Int.emod_lt_of_pos _ (by omega)⟩
theorem plF_next (s : Int) (x : Hs) (n : Int) (t : Nat) : intA (upd (plF s x n t) t (plc s x n t)) = intA (plF s x n (t + 1)) := by
  apply intA_congr
  intro i _
  unfold upd plF
  by_cases h : i = t
  · subst h; simp
  · simp only [if_neg h]
    by_cases h2 : i < t
    · rw [if_pos h2, if_pos (by omega)]
    · rw [if_neg h2, if_neg (by omega)]
theorem plF_full (s : Int) (x : Hs) (n : Int) : intA (plF s x n 4) = intA (plc s x n) := intA_congr fun i hi => by simp [plF, hi]

set_option maxRecDepth 8000 in
set_option maxHeartbeats 4000000 in
theorem places_any (s : Int) (x : Hs) (n : Int) (w : World) (hs : 0 ≤ s ∧ s < 18446744073709551616) (hn : 8 ≤ n ∧ n ≤ 8192) :
    Calls Try.prog 32 #[.int .u64 s, .agg (bytesA 32 x.f), .int .i64 n] w fun e w' => e = .returned (.agg (intA (plc s x n))) ∧ Below w.heap.size w w' := by
  obtain ⟨ch, Hch⟩ : ∃ ch, Keep (ch = bytesA 32 x.f) := ⟨_, ⟨rfl⟩⟩
  have HIch : Keep ((Try.prog.info? 27).map (·.size) = some ch.size) := ⟨by rw [Hch.out]; exact Try.size27B _⟩
  have HOch : Keep (ch.all (·.oneCell') = true) := ⟨by rw [Hch.out]; exact bytesA_one _ _⟩
  obtain ⟨cn, Hcn⟩ : ∃ cn, Keep (cn = u64A (nums s x)) := ⟨_, ⟨rfl⟩⟩
  have HIcn : Keep ((Try.prog.info? 61).map (·.size) = some cn.size) := ⟨by rw [Hcn.out]; exact Try.size61U _⟩
  have HOcn : Keep (cn.all (·.oneCell') = true) := ⟨by rw [Hcn.out]; exact u64A_one _⟩
  have HZcn : Keep ((u64A fun _ => 0).size = cn.size) := ⟨by rw [Hcn.out]; exact (by rw [u64A_size, u64A_size])⟩
  have HC : Keep (∀ w, Calls Try.prog 39 #[.int .u64 s, .agg ch] w fun e w' => e = .returned (.agg cn) ∧ Below w.heap.size w w') := ⟨fun w => by rw [Hch.out, Hcn.out]; exact numbers_any s x w hs⟩
  rw [← Hch.out]
  have Hs := Keep.mk hs
  clear hs
  go_enter Try.func32, Try.ntmps32
  go_wp2_with (first | (refine wpList_boxA rfl 27 (.tmp 1) rfl ch rfl ?_; refine Hid.out ?_))
  refine hid_in ?_
  have H4 := Keep.mk (Blk.new w 27 ch)
  have HB := Keep.mk (below_new w (.cells ch 27))
  obtain ⟨g4, hg4⟩ : ∃ g, Keep (g = w.heap.size) := ⟨_, ⟨rfl⟩⟩
  rw [← hg4.out] at H4 ⊢
  generalize w.alloc (.cells ch 27) = wa at *
  go_wp2_with (first | (refine wpList_new rfl 51 rfl _ Try.new51 ?_; refine Hid.out ?_))
  refine hid_in ?_
  have H6 := Keep.mk (Blk.new wa 51 (intA fun _ => 0))
  have HBb := Keep.mk (HB.out.alloc HB.out.size (.cells (intA fun _ => 0) 51))
  have H4b := Keep.mk (H4.out.alloc (.cells (intA fun _ => 0) 51))
  obtain ⟨g6, hg6⟩ : ∃ g, Keep (g = wa.heap.size) := ⟨_, ⟨rfl⟩⟩
  have hge6 : w.heap.size ≤ g6 := by rw [hg6.out]; exact HB.out.size
  rw [← hg6.out] at H6 ⊢
  generalize wa.alloc (.cells (intA fun _ => 0) 51) = wb at *
  clear H4 HB
  go_wp2_with (first | (refine wpList_new rfl 51 rfl _ Try.new51 ?_; refine Hid.out ?_))
  refine hid_in ?_
  have H7 := Keep.mk (Blk.new wb 51 (intA fun _ => 0))
  have HBc := Keep.mk (HBb.out.alloc HBb.out.size (.cells (intA fun _ => 0) 51))
  have H4c := Keep.mk (H4b.out.alloc (.cells (intA fun _ => 0) 51))
  have H6c := Keep.mk (H6.out.alloc (.cells (intA fun _ => 0) 51))
  obtain ⟨g7, hg7⟩ : ∃ g, Keep (g = wb.heap.size) := ⟨_, ⟨rfl⟩⟩
  have hge7 : w.heap.size ≤ g7 := by rw [hg7.out]; exact HBb.out.size
  have hn67 : g6 ≠ g7 := by have := H6.out.lt; have := hg7.out; omega
  rw [← hg7.out] at H7 ⊢
  generalize wb.alloc (.cells (intA fun _ => 0) 51) = wc at *
  clear H4b HBb H6
  go_wp2_with (first | (refine wpList_load_row rfl 27 (.tmp 4) rfl g4 rfl 27 ch (0, 0) (.array 32 5) H4c.out Try.underlying27 rfl HIch.out ?_))
  refine (HC.out wc).mono ?_
  rintro e wd ⟨rfl, hbd⟩
  have H7d := Keep.mk (H7.out.below hbd H7.out.lt)
  have H6d := Keep.mk (H6c.out.below hbd H6c.out.lt)
  have HBd := Keep.mk (HBc.out.trans (hbd.mono HBc.out.size))
  clear hbd H7 H6c HBc H4c HC
  go_wp2_with (first | (refine wpList_new rfl 61 rfl _ Try.new61 ?_; refine Hid.out ?_))
  refine hid_in ?_
  have H8 := Keep.mk (Blk.new wd 61 (u64A fun _ => 0))
  have HBe := Keep.mk (HBd.out.alloc HBd.out.size (.cells (u64A fun _ => 0) 61))
  have H7e := Keep.mk (H7d.out.alloc (.cells (u64A fun _ => 0) 61))
  have H6e := Keep.mk (H6d.out.alloc (.cells (u64A fun _ => 0) 61))
  obtain ⟨g8, hg8⟩ : ∃ g, Keep (g = wd.heap.size) := ⟨_, ⟨rfl⟩⟩
  have hge8 : w.heap.size ≤ g8 := by rw [hg8.out]; exact HBd.out.size
  have hn78 : g7 ≠ g8 := by have := H7d.out.lt; have := hg8.out; omega
  have hn68 : g6 ≠ g8 := by have := H6d.out.lt; have := hg8.out; omega
  rw [← hg8.out] at H8 ⊢
  generalize wd.alloc (.cells (u64A fun _ => 0) 61) = we at *
  clear H7d HBd H6d
  go_wp2_with (first | (refine wpList_store_row rfl 61 (.tmp 8) (.tmp 12) rfl g8 cn rfl rfl 61 (u64A fun _ => 0) H8.out HIcn.out HZcn.out HOcn.out ?_; refine Hid.out ?_))
  refine hid_in ?_
  have H8f := Keep.mk (H8.out.setRow cn)
  have H7f := Keep.mk (H7e.out.setRow_ne (b' := g8) hn78 cn)
  have H6f := Keep.mk (H6e.out.setRow_ne (b' := g8) hn68 cn)
  have HBf := Keep.mk (below_setRow HBe.out hge8 cn)
  generalize we.setRow g8 cn = wf at *
  clear H8 H7e H6e HBe
  have HM : Keep (∀ i, i < 4 → cn[i]? = some (.int .u64 (nums s x i))) := ⟨fun i hi => by rw [Hcn.out]; exact u64A_get _ _ hi⟩
  go_wp2_with fail
  go_loopw [13] (fun i wr => ∃ t : Nat, t ≤ 4 ∧ i = .int .i64 t ∧ Blk wr g7 51 (intA (plF s x n t)) ∧ Blk wr g8 61 cn ∧ Blk wr g6 51 (intA fun _ => 0) ∧ Below w.heap.size w wr) (fun i _ => 4 - (intOf i).toNat)
  case atStart => exact ⟨0, by omega, rfl, (show plF s x n 0 = fun _ => 0 from funext fun i => by simp [plF]) ▸ H7f.out, H8f.out, H6f.out, HBf.out⟩
  case round =>
    clear H7f H8f H6f HBf
    obtain ⟨t, ht, rfl, h7, h8, h6, hB⟩ := hrel
    by_cases hlt : t < 4
    · have hlt' : (t : Int) < 4 := by omega
      have c8 : wr.cell? ⟨g8, t, none⟩ = some (.int .u64 (nums s x t)) := by rw [h8.cell, HM.out t hlt]
      have c7 : wr.cell? ⟨g7, t, none⟩ = some (.int .i64 (plF s x n t t)) := by rw [h7.cell, intA_get _ _ hlt]
      have ff := h7.frozen t
      have hyr := nums_rng s x t
      have hpr := plc_rng s x n hn.1 t
      have H7n := Keep.mk (h7.set t (.int .i64 (plc s x n t)))
      rw [intA_set, plF_next] at H7n
      have H8n := Keep.mk (h8.set_ne (b' := g7) (j := t) hn78.symm (.int .i64 (plc s x n t)))
      have H6n := Keep.mk (h6.set_ne (b' := g7) (j := t) hn67 (.int .i64 (plc s x n t)))
      have HBn := Keep.mk (hB.setCell hge7 (p := ⟨g7, t, none⟩) (.int .i64 (plc s x n t)))
      have hw1 : IntKind.i64.wrap (8 * n) = 8 * n := by rw [IntKind.wrap_i64]; omega
      have hw2 : IntKind.u64.wrap (8 * n) = 8 * n := by rw [IntKind.wrap_u64]; omega
      have hnz : 8 * n ≠ 0 := by omega
      have hrem : (nums s x t).tmod (8 * n) = plc s x n t := Int.tmod_eq_emod_of_nonneg hyr.1
      have hw3 : IntKind.i64.wrap (plc s x n t) = plc s x n t := by rw [IntKind.wrap_i64]; omega
      generalize plc s x n t = p at *
      generalize nums s x t = y at *
      generalize plF s x n t t = z at *
      clear h7 h8 h6 hB hyr
      go_wp2
      go_roundw
      case rel => exact ⟨t + 1, by omega, by go_num, H7n.out, H8n.out, H6n.out, HBn.out⟩
      case measure => simp only [intOf]; omega
    · obtain rfl : t = 4 := by omega
      rw [show ((4 : Nat) : Int) = 4 from rfl]
      rw [plF_full] at h7
      have HB := Keep.mk hB
      have H6 := Keep.mk h6
      clear hB h6 h8 HM
      obtain ⟨cp, Hcp⟩ : ∃ cp, Keep (cp = intA (plc s x n)) := ⟨_, ⟨rfl⟩⟩
      have HIcp : Keep ((Try.prog.info? 51).map (·.size) = some cp.size) := ⟨by rw [Hcp.out]; exact Try.size51I _⟩
      have HOcp : Keep (cp.all (·.oneCell') = true) := ⟨by rw [Hcp.out]; exact intA_one _⟩
      have HZcp : Keep ((intA fun _ => 0).size = cp.size) := ⟨by rw [Hcp.out]; exact (by rw [intA_size, intA_size])⟩
      rw [← Hcp.out] at h7
      go_wp2_with (first | (refine wpList_load_row rfl 51 (.tmp 7) rfl g7 rfl 51 cp (0, 0) (.array 4 3) h7 Try.underlying51 rfl HIcp.out ?_) | (refine wpList_store_row rfl 51 (.tmp 6) (.tmp 27) rfl g6 cp rfl rfl 51 (intA fun _ => 0) H6.out HIcp.out HZcp.out HOcp.out ?_))
      exact bodyPost_ret (v := .agg cp) (results_cell_row Try.results32 _ _ g6 51 _ (0, 0) _ rfl (H6.out.setRow cp) Try.underlying51 rfl HIcp.out) rfl ⟨by rw [Hcp.out], below_setRow HB.out hge6 cp⟩

/-- The places, if there are any. -/
def plL (s : Int) (x : Hs) (n : Int) : List Int := if isP n = true then plcL s x n else []
theorem plL_len (s : Int) (x : Hs) (n : Int) : (plL s x n).length ≤ 4 := by unfold plL; split <;> simp [plcL_len]
def NewJ (w : World) (v : Value) (l : List Int) (w' : World) : Prop := OwnJ w' v l ∧ (∀ k, v.ownBlock = some k → w.heap.size ≤ k) ∧ Below w.heap.size w w'
theorem ownJ_arr {w : World} {g : Nat} {s : Int} {x : Hs} {n : Int} (h : Blk w g 51 (intA (plc s x n))) : OwnJ w (.slice (some ⟨g, 0, none⟩) 4 4) (plcL s x n) := by
  refine .inr ⟨g, 4, _, 51, by rw [plcL_len], h, .inr ⟨rfl, plcL_len _ _ _⟩, by rw [plcL_len]; omega, by unfold maxLen; omega, intA_size _, ?_⟩
  rw [plcL_len, List.take_of_length_le (by rw [Array.length_toList, intA_size]; omega)]
  apply List.ext_getElem?
  intro i
  rw [Array.getElem?_toList]
  by_cases hi : i < 4
  · rw [intA_get _ _ hi, iv_get _ _ (by rw [plcL_len]; exact hi), plcL_get _ _ _ _ hi]
  · rw [Array.getElem?_eq_none (by rw [intA_size]; omega), List.getElem?_eq_none (by rw [iv_len, plcL_len]; omega)]

set_option maxRecDepth 8000 in
set_option maxHeartbeats 4000000 in
theorem Places_any (s : Int) (x : Hs) (n : Int) (w : World) (hs : 0 ≤ s ∧ s < 18446744073709551616) :
    Calls Try.prog 13 #[.int .u64 s, .agg (bytesA 32 x.f), .int .i64 n] w fun e w' => ∃ v, e = .returned v ∧ NewJ w v (plL s x n) w' ∧ ∀ a n c, v = .slice a n c → n = c := by
  obtain ⟨ch, Hch⟩ : ∃ ch, Keep (ch = bytesA 32 x.f) := ⟨_, ⟨rfl⟩⟩
  have HIch : Keep ((Try.prog.info? 27).map (·.size) = some ch.size) := ⟨by rw [Hch.out]; exact Try.size27B _⟩
  have HOch : Keep (ch.all (·.oneCell') = true) := ⟨by rw [Hch.out]; exact bytesA_one _ _⟩
  obtain ⟨cp, Hcp⟩ : ∃ cp, Keep (cp = intA (plc s x n)) := ⟨_, ⟨rfl⟩⟩
  have HIcp : Keep ((Try.prog.info? 51).map (·.size) = some cp.size) := ⟨by rw [Hcp.out]; exact Try.size51I _⟩
  have HOcp : Keep (cp.all (·.oneCell') = true) := ⟨by rw [Hcp.out]; exact intA_one _⟩
  have HZcp : Keep ((intA fun _ => 0).size = cp.size) := ⟨by rw [Hcp.out]; exact (by rw [intA_size, intA_size])⟩
  have HC : Keep (isP n = true → ∀ w, Calls Try.prog 32 #[.int .u64 s, .agg ch, .int .i64 n] w fun e w' => e = .returned (.agg cp) ∧ Below w.heap.size w w') := ⟨fun h w => by rw [Hch.out, Hcp.out]; exact places_any s x n w hs (isP_rng h)⟩
  rw [← Hch.out]
  have HS : Keep (∀ w, Calls Try.prog 31 #[.int .i64 n] w fun e w' => e = .returned (.bool (isP n)) ∧ w' = w) := ⟨isSize_any n⟩
  have HL : Keep (plL s x n = if isP n = true then plcL s x n else []) := ⟨rfl⟩
  clear hs
  generalize isP n = b at *
  cases b
  · rw [if_neg (by simp)] at HL
    go_enter Try.func13, Try.ntmps13
    go_wp2_with (first | (refine wpList_boxA rfl 27 (.tmp 1) rfl ch rfl ?_; refine Hid.out ?_))
    refine hid_in ?_
    have HB := Keep.mk (below_new w (.cells ch 27))
    generalize w.alloc (.cells ch 27) = wa at *
    go_wp2_with fail
    refine (HS.out _).mono ?_
    rintro e w' ⟨rfl, rfl⟩
    go_wp2
    go_ret
    exact ⟨_, rfl, ⟨by rw [HL.out]; exact ownJ_nil _, fun k hk => by simp [Value.ownBlock] at hk, HB.out⟩, fun a n c e => by injection e with e1 e2 e3; omega⟩
  · rw [if_pos rfl] at HL
    go_enter Try.func13, Try.ntmps13
    go_wp2_with (first | (refine wpList_boxA rfl 27 (.tmp 1) rfl ch rfl ?_; refine Hid.out ?_))
    refine hid_in ?_
    have HB := Keep.mk (below_new w (.cells ch 27))
    have H4 := Keep.mk (Blk.new w 27 ch)
    obtain ⟨g4, hg4⟩ : ∃ g, Keep (g = w.heap.size) := ⟨_, ⟨rfl⟩⟩
    rw [← hg4.out] at H4 ⊢
    generalize w.alloc (.cells ch 27) = wa at *
    go_wp2_with fail
    refine (HS.out _).mono ?_
    rintro e w' ⟨rfl, rfl⟩
    go_wp2_with (first | (refine wpList_load_row rfl 27 (.tmp 4) rfl g4 rfl 27 ch (0, 0) (.array 32 5) H4.out Try.underlying27 rfl HIch.out ?_))
    refine (HC.out (by trivial) _).mono ?_
    rintro e wb ⟨rfl, hbb⟩
    have HBb := Keep.mk (HB.out.trans (hbb.mono HB.out.size))
    clear hbb HB H4 HC HS
    go_wp2_with (first | (refine wpList_new rfl 51 rfl _ Try.new51 ?_; refine Hid.out ?_))
    refine hid_in ?_
    have H7 := Keep.mk (Blk.new wb 51 (intA fun _ => 0))
    have HBc := Keep.mk (HBb.out.alloc HBb.out.size (.cells (intA fun _ => 0) 51))
    obtain ⟨g7, hg7⟩ : ∃ g, Keep (g = wb.heap.size) := ⟨_, ⟨rfl⟩⟩
    have hge7 : w.heap.size ≤ g7 := by rw [hg7.out]; exact HBb.out.size
    rw [← hg7.out] at H7 ⊢
    generalize wb.alloc (.cells (intA fun _ => 0) 51) = wc at *
    clear HBb
    go_wp2_with (first | (refine wpList_store_row rfl 51 (.tmp 7) (.tmp 14) rfl g7 cp rfl rfl 51 (intA fun _ => 0) H7.out HIcp.out HZcp.out HOcp.out ?_; refine Hid.out ?_))
    refine hid_in ?_
    have H7d := Keep.mk (H7.out.setRow cp)
    have HBd := Keep.mk (below_setRow HBc.out hge7 cp)
    generalize wc.setRow g7 cp = wd at *
    clear H7 HBc
    go_wp2
    go_ret
    exact ⟨_, rfl, ⟨by rw [HL.out]; exact ownJ_arr (by rw [← Hcp.out]; exact H7d.out), fun k hk => by simp [Value.ownBlock] at hk; omega, HBd.out⟩, fun a n c e => by injection e with e1 e2 e3; omega⟩

end Go.Proofs.Ytfheinghkigocaa
namespace Go.Proofs.Ytfheinghkigocaa
open Go.RowKit

/-- New bytes: the call has made them. -/
def FreshB (w : World) (v : Value) (l : List Int) (w' : World) : Prop := Own w' v l ∧ (∃ k, v.ownBlock = some k ∧ w.heap.size ≤ k) ∧ Below w.heap.size w w'
theorem FreshB.app {w wr w' : World} {v v' : Value} {l m : List Int} (h : FreshB w v l wr) (hp : AppPost wr v m v' w') : FreshB w v' m w' := by
  obtain ⟨h1, h2⟩ := grow_free h.2.1 h.2.2.size hp
  exact ⟨hp.1, h1, h.2.2.trans h2⟩
theorem FreshB.later {w wr w' : World} {v : Value} {l : List Int} (h : FreshB w v l wr) (hb : Below wr.heap.size wr w') : FreshB w v l w' :=
  ⟨h.1.grown (Grown.below (S := fun _ => False) hb) fun _ _ h => h, h.2.1, h.2.2.trans (hb.mono h.2.2.size)⟩
theorem FreshB.from {w w1 wr : World} {v : Value} {l : List Int} (h : FreshB w1 v l wr) (hb : Below w.heap.size w w1) : FreshB w v l wr := by
  obtain ⟨k, h1, h2⟩ := h.2.1
  exact ⟨h.1, ⟨k, h1, Nat.le_trans hb.size h2⟩, hb.trans (h.2.2.mono hb.size)⟩
theorem FreshB.empty (w : World) : FreshB w (.slice (some ⟨w.heap.size, 0, none⟩) 0 0) [] (w.alloc (.cells #[] 5)) :=
  ⟨own_empty _ _ (Blk.new _ _ _), ⟨_, rfl, Nat.le_refl _⟩, below_new _ _⟩

end Go.Proofs.Ytfheinghkigocaa
namespace Go.Proofs.Ytfheinghkigocaa
open Go.RowKit
set_option linter.unusedSimpArgs false
set_option linter.unusedVariables false

theorem Try.in29 (w : World) (vs : Array Value) : (callFunc 29 vs).run Try.prog w = .ok (.enter 29 vs) w := by kernel_rfl
theorem Try.in30 (w : World) (vs : Array Value) : (callFunc 30 vs).run Try.prog w = .ok (.enter 30 vs) w := by kernel_rfl

set_option maxHeartbeats 4000000 in
theorem sameInts_any (v u : Value) (l : List Int) (w : World) (hv : OwnJ w v l) (hu : OwnJ w u l) (hl : l.length ≤ 1000000) :
    Calls Try.prog 14 #[v, u] w fun e w' => e = .returned (.bool true) ∧ Below w.heap.size w w' := by
  have HV := Keep.mk hv
  have HU := Keep.mk hu
  obtain ⟨va, vc, rfl⟩ := hv.sl
  obtain ⟨ua, uc, rfl⟩ := hu.sl
  clear hv hu
  go_enter Try.func14, Try.ntmps14
  go_wp2
  go_loopw [5] (fun i wr => ∃ t : Nat, t ≤ l.length ∧ i = .int .i64 t ∧ Below w.heap.size w wr) (fun i _ => l.length - (intOf i).toNat)
  case atStart => exact ⟨0, by omega, rfl, Below.refl _ _⟩
  case round =>
    obtain ⟨t, ht, rfl, hB⟩ := hrel
    by_cases hlt : t < l.length
    · have hlt' : (t : Int) < l.length := by omega
      obtain ⟨b, rfl, hc, _, _⟩ := (HV.out.below hB).at hlt
      obtain ⟨b2, rfl, hc2, _, _⟩ := (HU.out.below hB).at hlt
      have hq1 : ∀ n, (wr.drewN n).cell? ⟨b, t, none⟩ = some (.int .i64 (l.getD t 0)) := fun n => hc
      have hq2 : ∀ n, (wr.drewN n).cell? ⟨b2, t, none⟩ = some (.int .i64 (l.getD t 0)) := fun n => hc2
      have HB := Keep.mk hB
      generalize l.getD t 0 = z at *
      clear hB
      go_wp2_with fail
      go_quiet (fail)
      have HBq := Keep.mk (below_drewN HB.out nq)
      generalize wr.drewN nq = wq at *
      go_wp2
      go_roundw
      case rel => exact ⟨t + 1, by omega, by go_num, HBq.out⟩
      case measure => simp only [intOf]; omega
    · obtain rfl : t = l.length := by omega
      go_wp2
      go_ret
      exact ⟨rfl, hB⟩

/-- The same number, from its highest byte on. -/
def hsum (c : Nat → Int) (i : Nat) : Nat → Int
  | 0 => 0
  | m + 1 => 256 * hsum c i m + c (8 * i + (7 - m))
theorem hsum_rng (c : Nat → Int) (hc : ∀ i, 0 ≤ c i ∧ c i < 256) (i : Nat) : ∀ m, 0 ≤ hsum c i m ∧ hsum c i m < 2 ^ (8 * m)
  | 0 => by simp [hsum]
  | m + 1 => by
    have h := hsum_rng c hc i m
    have hb := hc (8 * i + (7 - m))
    have hp : (2 : Int) ^ (8 * (m + 1)) = 256 * 2 ^ (8 * m) := by rw [show 8 * (m + 1) = 8 + 8 * m by omega, Int.pow_add]; rfl
    rw [hsum, hp]
    generalize (2 : Int) ^ (8 * m) = p at *
    omega
theorem hsum_lsum (c : Nat → Int) (i : Nat) : hsum c i 8 = lsum c i 8 := by
  simp only [hsum, lsum]
  simp
  omega
theorem FreshB.ne {w wr : World} {v : Value} {l : List Int} (h : FreshB w v l wr) {g : Nat} {T : TypeId} {cs : Array Value} (hg : Blk wr g T cs) (hT : T ≠ 5) : ¬ (v.ownBlock = some g) := fun e => h.1.ne hg hT e
theorem NewJ.app {w wr w' : World} {v v' : Value} {l m : List Int} (h : NewJ w v l wr) (hp : AppPostJ wr v m v' w') : NewJ w v' m w' := by
  rcases hp.2 with ⟨h1, h2, _⟩ | ⟨h1, h2⟩
  · exact ⟨hp.1, fun k hk => h.2.1 k (h1 ▸ hk), h.2.2.trans (h2.to_below (fun k hk e => by have := h.2.1 k e; omega) h.2.2.size)⟩
  · exact ⟨hp.1, fun k hk => by rw [h1] at hk; injection hk with hk; rw [← hk]; exact h.2.2.size, h.2.2.trans (h2.mono h.2.2.size)⟩
theorem NewJ.later {w wr w' : World} {v : Value} {l : List Int} (h : NewJ w v l wr) (hb : Below wr.heap.size wr w') : NewJ w v l w' :=
  ⟨h.1.below hb, h.2.1, h.2.2.trans (hb.mono h.2.2.size)⟩

set_option maxRecDepth 8000 in
set_option maxHeartbeats 4000000 in
theorem rPlaces_any (s : Int) (x : Hs) (n : Int) (w : World) (hs : 0 ≤ s ∧ s < 18446744073709551616) :
    Calls Try.prog 12 #[.int .u64 s, .agg (bytesA 32 x.f), .int .i64 n] w fun e w' => ∃ v, e = .returned v ∧ NewJ w v (plL s x n) w' := by
  obtain ⟨ch, Hch⟩ : ∃ ch, Keep (ch = bytesA 32 x.f) := ⟨_, ⟨rfl⟩⟩
  have HIch : Keep ((Try.prog.info? 27).map (·.size) = some ch.size) := ⟨by rw [Hch.out]; exact Try.size27B _⟩
  have HOch : Keep (ch.all (·.oneCell') = true) := ⟨by rw [Hch.out]; exact bytesA_one _ _⟩
  rw [← Hch.out]
  have HS : Keep (∀ w, Calls Try.prog 29 #[.int .i64 n] w fun e w' => e = .returned (.bool (isP n)) ∧ w' = w) := ⟨power_any n⟩
  have HR : Keep (isP n = true → 8 ≤ n ∧ n ≤ 8192) := ⟨isP_rng⟩
  have HL : Keep (plL s x n = if isP n = true then plcL s x n else []) := ⟨rfl⟩
  have Hs := Keep.mk hs
  clear hs
  generalize isP n = b at *
  cases b
  · rw [if_neg (by simp)] at HL
    go_enter Try.func12, Try.ntmps12
    go_wp2_with (first | (refine wpList_boxA rfl 27 (.tmp 1) rfl ch rfl ?_; refine Hid.out ?_))
    refine hid_in ?_
    have HB := Keep.mk (below_new w (.cells ch 27))
    generalize w.alloc (.cells ch 27) = wa at *
    go_wp2_with fail
    refine (HS.out _).mono ?_
    rintro e w' ⟨rfl, rfl⟩
    go_wp2
    go_ret
    exact ⟨_, rfl, by rw [HL.out]; exact ownJ_nil _, fun k hk => by simp [Value.ownBlock] at hk, HB.out⟩
  rw [if_pos rfl] at HL
  have HN := Keep.mk (HR.out (by trivial))
  clear HR
  go_enter Try.func12, Try.ntmps12
  go_wp2_with (first | (refine wpList_boxA rfl 27 (.tmp 1) rfl ch rfl ?_; refine Hid.out ?_))
  refine hid_in ?_
  have HB := Keep.mk (below_new w (.cells ch 27))
  have H4 := Keep.mk (Blk.new w 27 ch)
  obtain ⟨g4, hg4⟩ : ∃ g, Keep (g = w.heap.size) := ⟨_, ⟨rfl⟩⟩
  rw [← hg4.out] at H4 ⊢
  generalize w.alloc (.cells ch 27) = wa at *
  go_wp2_with fail
  refine (HS.out _).mono ?_
  rintro e w' ⟨rfl, rfl⟩
  clear HS
  go_wp2_with fail
  have HF := Keep.mk ((FreshB.empty w').from HB.out)
  have H4a := Keep.mk (H4.out.alloc (.cells #[] 5))
  clear H4 HB
  generalize w'.alloc (.cells #[] 5) = wb at *
  go_loopw [8, 9] (fun b i wr => ∃ (t : Nat) (v1 : Value), t ≤ 8 ∧ v1 = b ∧ i = .int .i64 t ∧ FreshB w v1 (hl t (saltF s 8)) wr ∧ Blk wr g4 27 ch) (fun _ i _ => 8 - (intOf i).toNat)
  case atStart => exact ⟨0, _, by omega, rfl, rfl, HF.out, H4a.out⟩
  case round =>
    clear HF H4a
    obtain ⟨t, v1, ht, rfl, rfl, hF, hb1⟩ := hrel
    by_cases hlt : t < 8
    · have hlt' : (t : Int) < 8 := by omega
      obtain ⟨y, hy⟩ : ∃ y, Keep (y = saltF s 8 t) := ⟨_, ⟨rfl⟩⟩
      have hq : IntKind.u8.wrap (s / 2 ^ (8 * t)) = y := by rw [IntKind.wrap_u8, hy.out]; simp [saltF, hlt]
      have h8 : (8 * (t : Int)).toNat = 8 * t := by omega
      have HO1 := Keep.mk (hF.1.box (.cells #[.int .u8 y] 5))
      have Hb := Keep.mk (hb1.alloc (.cells #[.int .u8 y] 5))
      have HF1 := Keep.mk (hF.later (below_new wr (.cells #[.int .u8 y] 5)))
      have Hne := Keep.mk (hF.1.ne hb1 (by decide))
      have hlen : Keep ((hl t (saltF s 8)).length + [y].length ≤ 140737488355328) := ⟨by simp [hl_len]; omega⟩
      clear hF hb1
      go_wp2_with (first | (at_builtin; refine wpList_app rfl (.tmp 25) (.tmp 31) rfl _ (.slice (some ⟨wr.heap.size, 0, none⟩) 1 1) (hl t (saltF s 8)) [y] rfl rfl HO1.out (row_one wr _) hlen.out ?_; intro v' w' hp; refine Hid.out ?_))
      refine hid_in ?_
      have HP := Keep.mk (HF1.out.app hp)
      have HBn := Keep.mk (hp.grown.blk Hb.out Hne.out)
      clear hp HF1 HO1 Hb Hne
      go_wp2
      go_roundw
      case rel =>
        refine ⟨t + 1, _, by omega, rfl, by go_num, ?_, HBn.out⟩
        have e : hl (t + 1) (saltF s 8) = hl t (saltF s 8) ++ [y] := by simp [hl, List.range_succ, hy.out]
        rw [e]; exact HP.out
      case measure => simp only [intOf]; omega
    · obtain rfl : t = 8 := by omega
      rw [show ((8 : Nat) : Int) = 8 from rfl]
      have HF : Keep (FreshB w v1 (saltL s ++ hl 0 x.f) wr) := ⟨by simpa [hl, saltL] using hF⟩
      have H4 := Keep.mk hb1
      clear hF hb1 hlt ht
      have HM : Keep (∀ i, i < 32 → ch[i]? = some (.int .u8 (x.f i))) := ⟨fun i hi => by rw [Hch.out]; exact bytesA_get _ _ _ hi⟩
      go_wp2_with fail
      go_loopw [8, 10] (fun b i wr => ∃ (t : Nat) (v1 : Value), t ≤ 32 ∧ v1 = b ∧ i = .int .i64 t ∧ FreshB w v1 (saltL s ++ hl t x.f) wr ∧ Blk wr g4 27 ch) (fun _ i _ => 32 - (intOf i).toNat)
      case atStart => exact ⟨0, _, by omega, rfl, rfl, HF.out, H4.out⟩
      case round =>
        clear HF H4
        obtain ⟨t, v2, ht, rfl, rfl, hF, hb1⟩ := hrel
        by_cases hlt : t < 32
        · have hlt' : (t : Int) < 32 := by omega
          have cc : wr.cell? ⟨g4, t, none⟩ = some (.int .u8 (x.f t)) := by rw [hb1.cell, HM.out t hlt]
          have HO1 := Keep.mk (hF.1.box (.cells #[.int .u8 (x.f t)] 5))
          have Hb := Keep.mk (hb1.alloc (.cells #[.int .u8 (x.f t)] 5))
          have HF1 := Keep.mk (hF.later (below_new wr (.cells #[.int .u8 (x.f t)] 5)))
          have Hne := Keep.mk (hF.1.ne hb1 (by decide))
          have hlen : Keep ((saltL s ++ hl t x.f).length + [x.f t].length ≤ 140737488355328) := ⟨by simp [hl_len, saltL]; omega⟩
          clear hF hb1
          go_wp2_with (first | (at_builtin; refine wpList_app rfl (.tmp 37) (.tmp 41) rfl _ (.slice (some ⟨wr.heap.size, 0, none⟩) 1 1) (saltL s ++ hl t x.f) [x.f t] rfl rfl HO1.out (row_one wr _) hlen.out ?_; intro v' w' hp; refine Hid.out ?_))
          refine hid_in ?_
          have HP := Keep.mk (HF1.out.app hp)
          have HBn := Keep.mk (hp.grown.blk Hb.out Hne.out)
          clear hp HF1 HO1 Hb Hne cc
          go_wp2
          go_roundw
          case rel =>
            refine ⟨t + 1, _, by omega, rfl, by go_num, ?_, HBn.out⟩
            have e : saltL s ++ hl (t + 1) x.f = saltL s ++ hl t x.f ++ [x.f t] := by simp [hl, List.range_succ]
            rw [e]; exact HP.out
          case measure => simp only [intOf]; omega
        · obtain rfl : t = 32 := by omega
          rw [show ((32 : Nat) : Int) = 32 from rfl]
          have HF : Keep (FreshB w v2 (seedL s x) wr) := ⟨hF⟩
          clear hF hb1 hlt ht HM
          obtain ⟨cm, Hcm⟩ : ∃ cm, Keep (cm = bytesA 32 (shaP (seedL s x))) := ⟨_, ⟨rfl⟩⟩
          have HIcm : Keep ((Try.prog.info? 27).map (·.size) = some cm.size) := ⟨by rw [Hcm.out]; exact Try.size27B _⟩
          have HOcm : Keep (cm.all (·.oneCell') = true) := ⟨by rw [Hcm.out]; exact bytesA_one _ _⟩
          have HZcm : Keep ((bytesA 32 fun _ => 0).size = cm.size) := ⟨by rw [Hcm.out]; exact bytesA_sizes _ _ _⟩
          have HC : Keep (Calls Try.prog 30 #[v2] wr fun e w' => e = .returned (.agg cm) ∧ Below wr.heap.size wr w') := ⟨by rw [Hcm.out]; exact refOf_sha v2 _ wr HF.out.1.row (by rw [seedL_len]; omega)⟩
          have HB := Keep.mk HF.out.2.2
          clear HF
          go_wp2_with fail
          refine HC.out.mono ?_
          rintro e wc ⟨rfl, hbc⟩
          have HBc := Keep.mk (HB.out.trans (hbc.mono HB.out.size))
          clear hbc HB HC
          go_wp2_with (first | (refine wpList_new rfl 27 rfl _ Try.new27 ?_; refine Hid.out ?_))
          refine hid_in ?_
          have H11 := Keep.mk (Blk.new wc 27 (bytesA 32 fun _ => 0))
          have HBd := Keep.mk (HBc.out.alloc HBc.out.size (.cells (bytesA 32 fun _ => 0) 27))
          obtain ⟨g11, hg11⟩ : ∃ g, Keep (g = wc.heap.size) := ⟨_, ⟨rfl⟩⟩
          have hge11 : w.heap.size ≤ g11 := by rw [hg11.out]; exact HBc.out.size
          rw [← hg11.out] at H11 ⊢
          generalize wc.alloc (.cells (bytesA 32 fun _ => 0) 27) = wd at *
          clear HBc
          go_wp2_with (first | (refine wpList_store_row rfl 27 (.tmp 11) (.tmp 44) rfl g11 cm rfl rfl 27 (bytesA 32 fun _ => 0) H11.out HIcm.out HZcm.out HOcm.out ?_; refine Hid.out ?_))
          refine hid_in ?_
          have H11e := Keep.mk (H11.out.setRow cm)
          have HBe := Keep.mk (below_setRow HBd.out hge11 cm)
          generalize wd.setRow g11 cm = we at *
          clear H11 HBd
          have HC : Keep (∀ i, 0 ≤ shaP (seedL s x) i ∧ shaP (seedL s x) i < 256) := ⟨shaP_rng _⟩
          have HM : Keep (∀ i, i < 32 → cm[i]? = some (.int .u8 (shaP (seedL s x) i))) := ⟨fun i hi => by rw [Hcm.out]; exact bytesA_get _ _ _ hi⟩
          have HPL : Keep (∀ i, plc s x n i = lsum (shaP (seedL s x)) i 8 % (8 * n)) := ⟨fun i => by simp only [plc, nums]⟩
          obtain ⟨c, hc⟩ : ∃ c, Keep (shaP (seedL s x) = c) := ⟨_, ⟨rfl⟩⟩
          rw [hc.out] at HC HM HPL
          go_wp2_with fail
          have HJ : Keep (NewJ w (.slice (some ⟨we.heap.size, 0, none⟩) 0 0) [] (we.alloc (.cells #[] 3))) := ⟨.inr ⟨_, 0, #[], 3, rfl, Blk.new _ _ _, .inl rfl, by simp, by unfold maxLen; omega, rfl, rfl⟩, fun k hk => by simp [Value.ownBlock] at hk; rw [← hk]; exact HBe.out.size, HBe.out.alloc HBe.out.size _⟩
          have H11f := Keep.mk (H11e.out.alloc (.cells #[] 3))
          clear H11e HBe
          go_loopw [12, 13] (fun b i wr => ∃ (t : Nat) (v1 : Value), t ≤ 4 ∧ v1 = b ∧ i = .int .i64 t ∧ NewJ w v1 ((List.range t).map (plc s x n)) wr ∧ Blk wr g11 27 cm) (fun _ i _ => 4 - (intOf i).toNat)
          case atStart => exact ⟨0, _, by omega, rfl, rfl, HJ.out, H11f.out⟩
          case round =>
            clear HJ H11f
            obtain ⟨t, v3, ht, rfl, rfl, hJ, h11⟩ := hrel
            by_cases hlt : t < 4
            · have hlt' : (t : Int) < 4 := by omega
              have HJ := Keep.mk hJ
              have H11 := Keep.mk h11
              clear hJ h11
              go_wp2_with fail
              go_loop [14, 15] (fun a i => ∃ m : Nat, m ≤ 8 ∧ a = .int .u64 (hsum c t m) ∧ i = .int .i64 (7 - (m : Int))) (fun _ i => (intOf i + 1).toNat)
              case atStart => exact ⟨0, by omega, rfl, rfl⟩
              case round =>
                obtain ⟨m, hm, rfl, rfl⟩ := hrel
                by_cases hlm : m < 8
                · have hge : (7 - (m : Int)) ≥ 0 := by omega
                  obtain ⟨j, hj⟩ : ∃ j, Keep (j = 8 * t + (7 - m)) := ⟨_, ⟨rfl⟩⟩
                  have hj32 : (j : Int) < 32 := by rw [hj.out]; omega
                  have cc : wr.cell? ⟨g11, j, none⟩ = some (.int .u8 (c j)) := by rw [H11.out.cell, HM.out j (by omega)]
                  have hcr := HC.out j
                  have hhr := hsum_rng c HC.out t m
                  have hp : (2 : Int) ^ (8 * m) ≤ 72057594037927936 := by
                    have h : ∀ k : Fin 8, (2 : Int) ^ (8 * k.val) ≤ 72057594037927936 := by decide
                    exact h ⟨m, hlm⟩
                  have hnx : hsum c t (m + 1) = 256 * hsum c t m + c j := by rw [hj.out]; rfl
                  have hw1 : IntKind.i64.wrap (8 * (t : Int)) = 8 * (t : Int) := by rw [IntKind.wrap_i64]; omega
                  have hw2 : IntKind.i64.wrap (8 * (t : Int) + (7 - (m : Int))) = (j : Int) := by rw [IntKind.wrap_i64, hj.out]; omega
                  have hw3 : IntKind.u64.wrap (256 * hsum c t m) = 256 * hsum c t m := by rw [IntKind.wrap_u64]; omega
                  have hw4 : IntKind.u64.wrap (c j) = c j := by rw [IntKind.wrap_u64]; omega
                  have hw5 : IntKind.u64.wrap (256 * hsum c t m + c j) = 256 * hsum c t m + c j := by rw [IntKind.wrap_u64]; omega
                  have hw6 : IntKind.i64.wrap (7 - (m : Int) - 1) = 7 - (m : Int) - 1 := by rw [IntKind.wrap_i64]; omega
                  clear hp hhr
                  generalize hsum c t m = a at *
                  generalize c j = z at *
                  go_wp2
                  refine ⟨⟨m + 1, by omega, by rw [hnx], by congr 1; omega⟩, by simp only [intOf]; omega⟩
                · obtain rfl : m = 8 := by omega
                  rw [hsum_lsum, show (7 - ((8 : Nat) : Int)) = -1 from rfl]
                  have hyr := lsum_rng c HC.out t 8
                  have hpl := HPL.out t
                  have hn := HN.out
                  have hpr := plc_rng s x n hn.1 t
                  have hw1 : IntKind.i64.wrap (8 * n) = 8 * n := by rw [IntKind.wrap_i64]; omega
                  have hw2 : IntKind.u64.wrap (8 * n) = 8 * n := by rw [IntKind.wrap_u64]; omega
                  have hnz : 8 * n ≠ 0 := by omega
                  have hrem : (lsum c t 8).tmod (8 * n) = plc s x n t := by rw [hpl]; exact Int.tmod_eq_emod_of_nonneg hyr.1
                  have hw3 : IntKind.i64.wrap (plc s x n t) = plc s x n t := by rw [IntKind.wrap_i64]; omega
                  have HLn : Keep ((List.range (t + 1)).map (plc s x n) = (List.range t).map (plc s x n) ++ [plc s x n t]) := ⟨by simp [List.range_succ]⟩
                  have HO1 := Keep.mk (HJ.out.1.below (below_new wr (.cells #[.int .i64 (plc s x n t)] 3)))
                  have Hb := Keep.mk (H11.out.alloc (.cells #[.int .i64 (plc s x n t)] 3))
                  have HJ1 := Keep.mk (HJ.out.later (below_new wr (.cells #[.int .i64 (plc s x n t)] 3)))
                  have Hne := Keep.mk (HJ.out.1.ne H11.out (by decide))
                  have hlen : Keep (((List.range t).map (plc s x n)).length + 1 ≤ 1000000) := ⟨by simp; omega⟩
                  clear hpl hpr hyr HJ H11 hn
                  generalize lsum c t 8 = y at *
                  generalize plc s x n t = p at *
                  go_wp2_with (first | (at_builtin; refine wpList_appJ rfl (.tmp 64) (.tmp 71) rfl _ ((List.range t).map (plc s x n)) wr.heap.size p rfl rfl HO1.out (cell_one wr _ _) hlen.out ?_; intro v' w' hp; refine Hid.out ?_))
                  refine hid_in ?_
                  have HP := Keep.mk (HJ1.out.app hp)
                  have HBn := Keep.mk (hp.grown.blk Hb.out Hne.out)
                  clear hp HJ1 HO1 Hb Hne
                  go_wp2
                  go_roundw
                  case rel => exact ⟨t + 1, _, by omega, rfl, by go_num, by rw [HLn.out]; exact HP.out, HBn.out⟩
                  case measure => simp only [intOf]; omega
            · obtain rfl : t = 4 := by omega
              rw [show ((4 : Nat) : Int) = 4 from rfl]
              have HJ := Keep.mk hJ
              clear hJ h11
              go_wp2
              go_ret
              exact ⟨_, rfl, by rw [HL.out]; exact HJ.out⟩


end Go.Proofs.Ytfheinghkigocaa
namespace Go.Proofs.Ytfheinghkigocaa
open Go.RowKit
set_option linter.unusedSimpArgs false
set_option linter.unusedVariables false

/-- How many bits of a byte are 1. -/
def pop (c : Int) : Int := c / 1 % 2 + c / 2 % 2 + c / 4 % 2 + c / 8 % 2 + c / 16 % 2 + c / 32 % 2 + c / 64 % 2 + c / 128 % 2
theorem pop_ones : ∀ n : Fin 256, (Lib.onesCount n.val : Int) = pop (n.val : Int) := by decide +kernel
theorem pop_rng (c : Int) : 0 ≤ pop c ∧ pop c ≤ 8 := by unfold pop; omega

set_option maxRecDepth 100000 in
theorem ones_any (x : Int) (w : World) (h0 : 0 ≤ x) (h1 : x ≤ 255) :
    Calls Try.prog 33 #[.int .u8 x] w fun e w' => e = .returned (.int .i64 (pop x)) ∧ w' = w := by
  have hp := pop_ones ⟨x.toNat, by omega⟩
  simp only [Int.toNat_of_nonneg h0] at hp
  rw [← hp, ← Lib.pop8_int x h0 h1]
  clear hp
  go_enter Try.func33, Try.ntmps33
  go_wp2
  go_ret
  refine ⟨?_, rfl⟩
  rw [show wrap64 (Lib.pop8 x) = (Lib.pop8 x + 9223372036854775808) % 18446744073709551616 - 9223372036854775808 by unfold wrap64; omega]
  rfl

end Go.Proofs.Ytfheinghkigocaa
namespace Go.Proofs.Ytfheinghkigocaa
open Go.RowKit
set_option linter.unusedSimpArgs false
set_option linter.unusedVariables false

theorem RowAt.at {w : World} {v : Value} {l : List Int} (h : RowAt w v l) (h0 : 0 < l.length) : ∃ b o c, v = .slice (some ⟨b, o, none⟩) l.length c ∧ l.length ≤ c ∧ ∀ i, i < l.length → w.cell? ⟨b, o + i, none⟩ = some (.int .u8 (l.getD i 0)) := by
  rcases h with ⟨_, h2⟩ | ⟨_, _, _, h2⟩ | ⟨b, o, c, h1, h2, h3⟩
  · rw [h2] at h0; simp at h0
  · rw [h2] at h0; simp at h0
  · exact ⟨b, o, c, h1, h2, h3⟩
/-- Is a bit 1? -/
def btB (l : List Int) (i : Nat) : Bool := l.getD (i / 8) 0 / 2 ^ (i % 8) % 2 == 1

set_option maxHeartbeats 1000000 in
theorem bit_any (v : Value) (l : List Int) (w : World) (hr : RowAt w v l) (hb : Byts l) (i : Nat) (hi : i < 8 * l.length) (hl : l.length ≤ 140737488355328) :
    Calls Try.prog 34 #[v, .int .i64 (i : Int)] w fun e w' => e = .returned (.bool (btB l i)) ∧ w' = w := by
  obtain ⟨b, o, c, rfl, hc, hcell⟩ := hr.at (by omega)
  have hce := hcell (i / 8) (by omega)
  have hby := hb.getD (i / 8)
  unfold btB
  obtain ⟨q, hq⟩ : ∃ q, i / 8 = q := ⟨_, rfl⟩
  obtain ⟨r, hr⟩ : ∃ r, i % 8 = r := ⟨_, rfl⟩
  have hi8 : (i : Int) / 8 = (q : Int) := by omega
  have hm8 : (i : Int) % 8 = (r : Int) := by omega
  have hlt : q < l.length := by omega
  have hr8 : r < 8 := by omega
  rw [hq] at hce hby ⊢
  rw [hr] 
  generalize l.getD q 0 = z at *
  have hz0 : 0 ≤ z / 2 ^ r := Int.ediv_nonneg hby.1 (Int.le_of_lt (Int.pow_pos (by omega)))
  rw [← Int.tmod_eq_emod_of_nonneg hz0]
  clear hcell hq hr hz0
  go_enter Try.func34, Try.ntmps34
  go_wp2
  go_ret
  exact ⟨rfl, rfl⟩

theorem RowAt.at' {w : World} {a : Option Addr} {n c : Nat} {l : List Int} (h : RowAt w (.slice a n c) l) {i : Nat} (hi : i < l.length) : ∃ b o, a = some ⟨b, o, none⟩ ∧ w.cell? ⟨b, o + i, none⟩ = some (.int .u8 (l.getD i 0)) := by
  obtain ⟨b, o, c', e, _, h2⟩ := h.at (by omega)
  injection e with e1 e2 e3
  exact ⟨b, o, e1, h2 i hi⟩
/-- The bits of the first bytes. -/
def popU (l : List Int) : Nat → Int
  | 0 => 0
  | k + 1 => popU l k + pop (l.getD k 0)
theorem popU_rng (l : List Int) : ∀ k, 0 ≤ popU l k ∧ popU l k ≤ 8 * k
  | 0 => by simp [popU]
  | k + 1 => by have := popU_rng l k; have := pop_rng (l.getD k 0); simp only [popU]; omega
def cntB (l : List Int) : Nat → Int
  | 0 => 0
  | i + 1 => cntB l i + if btB l i = true then 1 else 0
theorem cntB_rng (l : List Int) : ∀ k, 0 ≤ cntB l k ∧ cntB l k ≤ k
  | 0 => by simp [cntB]
  | k + 1 => by have := cntB_rng l k; simp only [cntB]; split <;> omega
theorem cntB_pop (l : List Int) : ∀ k, cntB l (8 * k) = popU l k
  | 0 => rfl
  | k + 1 => by
    have hb : ∀ j, j < 8 → (if btB l (8 * k + j) = true then (1 : Int) else 0) = l.getD k 0 / 2 ^ j % 2 := by
      intro j hj
      unfold btB
      rw [show (8 * k + j) / 8 = k by omega, show (8 * k + j) % 8 = j by omega]
      generalize l.getD k 0 / 2 ^ j = z
      rcases Int.emod_two_eq z with h | h <;> simp [h]
    rw [show 8 * (k + 1) = 8 * k + 0 + 1 + 1 + 1 + 1 + 1 + 1 + 1 + 1 by omega]
    simp only [cntB, Nat.add_assoc, Nat.reduceAdd]
    have hb0 := hb 0 (by omega)
    rw [Nat.add_zero] at hb0
    rw [hb0, hb 1 (by omega), hb 2 (by omega), hb 3 (by omega), hb 4 (by omega), hb 5 (by omega), hb 6 (by omega), hb 7 (by omega), cntB_pop l k]
    simp only [popU, pop, Int.pow_zero, show (2 : Int) ^ 1 = 2 from rfl, show (2 : Int) ^ 2 = 4 from rfl, show (2 : Int) ^ 3 = 8 from rfl, show (2 : Int) ^ 4 = 16 from rfl, show (2 : Int) ^ 5 = 32 from rfl, show (2 : Int) ^ 6 = 64 from rfl, show (2 : Int) ^ 7 = 128 from rfl]
    omega

set_option maxHeartbeats 1000000 in
theorem count_any (v : Value) (l : List Int) (w : World) (hr : RowAt w v l) (hb : Byts l) (hl : l.length ≤ 140737488355328) :
    Calls Try.prog 21 #[v] w fun e w' => e = .returned (.int .i64 (popU l l.length)) ∧ w' = w := by
  obtain ⟨a, c, rfl⟩ := row_form hr
  have HR := Keep.mk hr
  clear hr
  go_enter Try.func21, Try.ntmps21
  go_wp2
  go_loop [3, 8] (fun n i => ∃ t : Nat, t ≤ l.length ∧ n = .int .i64 (popU l t) ∧ i = .int .i64 t) (fun _ i => l.length - (intOf i).toNat)
  case atStart => exact ⟨0, by omega, rfl, rfl⟩
  case round =>
    obtain ⟨t, ht, rfl, rfl⟩ := hrel
    by_cases hlt : t < l.length
    · have hlt' : (t : Int) < l.length := by omega
      obtain ⟨b, o, rfl, hc⟩ := HR.out.at' hlt
      have hby := hb.getD t
      have h1 := popU_rng l t
      have h2 := pop_rng (l.getD t 0)
      have hnx : popU l (t + 1) = popU l t + pop (l.getD t 0) := rfl
      have hw1 : IntKind.i64.wrap (popU l t + pop (l.getD t 0)) = popU l t + pop (l.getD t 0) := by rw [IntKind.wrap_i64]; omega
      have hw2 : IntKind.i64.wrap ((t : Int) + 1) = t + 1 := by rw [IntKind.wrap_i64]; omega
      generalize l.getD t 0 = z at *
      go_wp2_with (go_at_call 33; refine (ones_any z w (by omega) (by omega)).mono ?_; rintro e w' ⟨rfl, rfl⟩)
      refine ⟨⟨t + 1, by omega, by rw [hnx], by go_num⟩, by simp only [intOf]; omega⟩
    · obtain rfl : t = l.length := by omega
      go_wp2
      go_ret
      exact ⟨rfl, rfl⟩

set_option maxHeartbeats 1000000 in
theorem rcount_any (v : Value) (l : List Int) (w : World) (hr : RowAt w v l) (hb : Byts l) (hl : l.length ≤ 140737488355328) :
    Calls Try.prog 25 #[v] w fun e w' => e = .returned (.int .i64 (popU l l.length)) ∧ w' = w := by
  rw [← cntB_pop]
  obtain ⟨a, c, rfl⟩ := row_form hr
  have HR := Keep.mk hr
  clear hr
  have hw8 : IntKind.i64.wrap (8 * (l.length : Int)) = 8 * (l.length : Int) := by rw [IntKind.wrap_i64]; omega
  go_enter Try.func25, Try.ntmps25
  go_wp2
  go_loop [3, 4] (fun n i => ∃ t : Nat, t ≤ 8 * l.length ∧ n = .int .i64 (cntB l t) ∧ i = .int .i64 t) (fun _ i => 8 * l.length - (intOf i).toNat)
  case atStart => exact ⟨0, by omega, rfl, rfl⟩
  case round =>
    obtain ⟨t, ht, rfl, rfl⟩ := hrel
    by_cases hlt : t < 8 * l.length
    · have hlt' : (t : Int) < 8 * l.length := by omega
      have h1 := cntB_rng l t
      have hnx : cntB l (t + 1) = cntB l t + if btB l t = true then 1 else 0 := rfl
      have hw1 : IntKind.i64.wrap (cntB l t + 1) = cntB l t + 1 := by rw [IntKind.wrap_i64]; omega
      have hw2 : IntKind.i64.wrap ((t : Int) + 1) = t + 1 := by rw [IntKind.wrap_i64]; omega
      have HC := bit_any _ l w HR.out hb t hlt hl
      generalize btB l t = q at *
      generalize cntB l t = n at *
      cases q
      · go_wp2_with (go_at_call 34; refine HC.mono ?_; rintro e w' ⟨rfl, rfl⟩)
        refine ⟨⟨t + 1, by omega, by rw [hnx]; simp, by go_num⟩, by simp only [intOf]; omega⟩
      · go_wp2_with (go_at_call 34; refine HC.mono ?_; rintro e w' ⟨rfl, rfl⟩)
        refine ⟨⟨t + 1, by omega, by rw [hnx]; simp, by go_num⟩, by simp only [intOf]; omega⟩
    · obtain rfl : t = 8 * l.length := by omega
      go_wp2
      go_ret
      exact ⟨rfl, rfl⟩

end Go.Proofs.Ytfheinghkigocaa
