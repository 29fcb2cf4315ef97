import Derived.Test.YtogmdfhicbmplaaChecked
import Derived.WalkKit
import Derived.WalkSpells
import Derived.WalkLawsBesides
import Derived.BigQuiet
import Derived.BigRegion
import Derived.Deep.WholeRow
import Derived.Deep.MidRow
import Derived.Deep.RegionWith
import Derived.Deep.DeepCutAuto
import Derived.Deep.RegionHeld3
import Derived.Deep.QuietTactic
import Derived.Laws.OwnMore
import Derived.Laws.BytesArg
import Derived.Lib.AppendStr
import Derived.Maps.AppendAt
import Derived.ChangeKeysEq
import Derived.ArgAppend
import Derived.Lib.ConvBytes
import Derived.Laws.CopyOwn
import Derived.Laws.AppendOwnNone
import Derived.Sort.Grow
import Derived.Deep.Draws
namespace Go.Proofs.Ytogmdfhicbmplaa
open Go.RowKit

/-! ### Facts kept from the walk. -/
/-- A fact kept from the walk, and from every look behind its name. -/
structure Keep (p : Prop) : Prop where
 out : p

/-! ### Worlds: a block that holds these cells. -/
/-- Block b of w holds the cells cs (of type T), none of them frozen. -/
def Blk (w : World) (b : Nat) (T : TypeId) (cs : Array Value) : Prop := w.heap[b]? = some (.cells cs T (0, 0))

theorem Blk.lt {w : World} {b : Nat} {T : TypeId} {cs : Array Value} (h : Blk w b T cs) : b < w.heap.size := (Array.getElem?_eq_some_iff.1 h).1
theorem Blk.cell {w : World} {b : Nat} {T : TypeId} {cs : Array Value} (h : Blk w b T cs) (j : Nat) : w.cell? ⟨b, j, none⟩ = cs[j]? := cell_of_row w b j cs T (0, 0) h
theorem Blk.frozen {w : World} {b : Nat} {T : TypeId} {cs : Array Value} (h : Blk w b T cs) (j : Nat) : w.frozen? ⟨b, j, none⟩ = false := by
 unfold Blk at h; simp [World.frozen?, h]
theorem Blk.new (w : World) (T : TypeId) (cs : Array Value) : Blk (w.alloc (.cells cs T)) w.heap.size T cs := heap_alloc_new w _
theorem Blk.alloc {w : World} {b : Nat} {T : TypeId} {cs : Array Value} (h : Blk w b T cs) (o : Obj) : Blk (w.alloc o) b T cs := by
 unfold Blk; rw [Below.heap_alloc w o b h.lt]; exact h
theorem Blk.drew {w : World} {b : Nat} {T : TypeId} {cs : Array Value} (h : Blk w b T cs) : Blk w.drew b T cs := h
theorem Blk.below {w w' : World} {B b : Nat} {T : TypeId} {cs : Array Value} (h : Blk w b T cs) (hb : Below B w w') (hlt : b < B) : Blk w' b T cs := by
 unfold Blk; rw [hb.block b hlt]; exact h
theorem Blk.set {w : World} {b : Nat} {T : TypeId} {cs : Array Value} (h : Blk w b T cs) (j : Nat) (v : Value) : Blk (w.setCell ⟨b, j, none⟩ v) b T (cs.setIfInBounds j v) := by
 unfold Blk; rw [setCell_eq_setRow w b j cs T (0, 0) v h]; exact setRow_heap w b cs _ T (0, 0) h
theorem Blk.set_ne {w : World} {b b' j : Nat} {T : TypeId} {cs : Array Value} (h : Blk w b T cs) (hne : b ≠ b') (v : Value) : Blk (w.setCell ⟨b', j, none⟩ v) b T cs := by
 unfold Blk; rw [Below.heap_setCell w _ v b hne]; exact h
theorem Blk.setRow {w : World} {b : Nat} {T : TypeId} {cs : Array Value} (h : Blk w b T cs) (cs' : Array Value) : Blk (w.setRow b cs') b T cs' := setRow_heap w b cs cs' T (0, 0) h
theorem Blk.setRow_ne {w : World} {b b' : Nat} {T : TypeId} {cs : Array Value} (h : Blk w b T cs) (hne : b ≠ b') (cs' : Array Value) : Blk (w.setRow b' cs') b T cs := by
 unfold Blk; rw [setRow_other w b' b cs' hne]; exact h
theorem below_setRow {B : Nat} {a w : World} (h : Below B a w) {b : Nat} (hb : B ≤ b) (cs : Array Value) : Below B a (w.setRow b cs) :=
 h.trans ⟨rfl, rfl, rfl, by simp, fun k hk => setRow_other w b k cs (by omega)⟩
theorem below_new (w : World) (o : Obj) : Below w.heap.size w (w.alloc o) := (Below.refl _ _).alloc (Nat.le_refl _) o
theorem cell_lt {w : World} {h j : Nat} {v : Value} (hc : w.cell? ⟨h, j, none⟩ = some v) : h < w.heap.size := by
 apply Nat.lt_of_not_le; intro hle
 simp [World.cell?, Array.getElem?_eq_none hle] at hc

abbrev ptr (g : Nat) : Value := .pointer (some ⟨g, 0, none⟩)

theorem grownBy_setCell (w : World) (g j : Nat) (v : Value) : w.grownBy (w.setCell ⟨g, j, none⟩ v) (some g) :=
 ⟨rfl, rfl, rfl, by simp [World.setCell], fun i _ hn => Below.heap_setCell w _ v i (fun e => hn (by rw [e]))⟩
theorem grownBy_setRow (w : World) (g : Nat) (cs : Array Value) : w.grownBy (w.setRow g cs) (some g) :=
 ⟨rfl, rfl, rfl, by simp, fun i _ hn => setRow_other w g i cs (fun e => hn (by rw [e]))⟩

/-- w' is w with more behind it; of the old blocks only those that S names may have changed. -/
structure Grown (w w' : World) (S : Nat → Prop) : Prop where
 os : w'.os = w.os
 tape : w'.tape = w.tape
 output : w'.output = w.output
 size : w.heap.size ≤ w'.heap.size
 block : ∀ k, k < w.heap.size → ¬ S k → w'.heap[k]? = w.heap[k]?
theorem Grown.refl (w : World) (S : Nat → Prop) : Grown w w S := ⟨rfl, rfl, rfl, Nat.le_refl _, fun _ _ _ => rfl⟩
theorem Grown.trans {a b c : World} {S : Nat → Prop} (h : Grown a b S) (k : Grown b c S) : Grown a c S :=
 ⟨k.os.trans h.os, k.tape.trans h.tape, k.output.trans h.output, Nat.le_trans h.size k.size, fun i hi hs => (k.block i (Nat.lt_of_lt_of_le hi h.size) hs).trans (h.block i hi hs)⟩
/-- The second step may change, of the first world's blocks, only what S names. -/
theorem Grown.next {a b c : World} {S T : Nat → Prop} (h : Grown a b S) (k : Grown b c T) (hT : ∀ i, i < a.heap.size → T i → S i) : Grown a c S :=
 ⟨k.os.trans h.os, k.tape.trans h.tape, k.output.trans h.output, Nat.le_trans h.size k.size, fun i hi hs => (k.block i (Nat.lt_of_lt_of_le hi h.size) (fun ht => hs (hT i hi ht))).trans (h.block i hi hs)⟩
theorem Grown.mono {a b : World} {S T : Nat → Prop} (h : Grown a b S) (hT : ∀ i, i < a.heap.size → S i → T i) : Grown a b T := (Grown.refl a T).next h hT
theorem Grown.of {a b : World} {S : Nat → Prop} {o : Option Nat} (h : a.grownBy b o) (ho : ∀ k, k < a.heap.size → o = some k → S k) : Grown a b S :=
 ⟨h.os, h.tape, h.output, h.size, fun i hi hs => h.block i hi (fun e => hs (ho i hi e.symm))⟩
theorem Grown.below {a b : World} {S : Nat → Prop} (h : Below a.heap.size a b) : Grown a b S := ⟨h.os, h.tape, h.output, h.size, fun i hi _ => h.block i hi⟩
theorem Grown.drew {a b : World} {S : Nat → Prop} (h : Grown a b S) : Grown a b.drew S := ⟨h.os, h.tape, h.output, h.size, h.block⟩
theorem Grown.setCell (w : World) (g j : Nat) (v : Value) {S : Nat → Prop} (hS : g < w.heap.size → S g) : Grown w (w.setCell ⟨g, j, none⟩ v) S :=
 Grown.of (grownBy_setCell w g j v) fun k hk e => by injection e with e; subst e; exact hS hk
theorem Grown.setRow (w : World) (g : Nat) (cs : Array Value) {S : Nat → Prop} (hS : g < w.heap.size → S g) : Grown w (w.setRow g cs) S :=
 Grown.of (grownBy_setRow w g cs) fun k hk e => by injection e with e; subst e; exact hS hk
theorem Grown.blk {a b : World} {S : Nat → Prop} (h : Grown a b S) {k : Nat} {T : TypeId} {cs : Array Value} (hk : Blk a k T cs) (hs : ¬ S k) : Blk b k T cs := by
 unfold Blk; rw [h.block k hk.lt hs]; exact hk
theorem Grown.cell {a b : World} {S : Nat → Prop} (h : Grown a b S) {k j : Nat} {v : Value} (hk : a.cell? ⟨k, j, none⟩ = some v) (hs : ¬ S k) : b.cell? ⟨k, j, none⟩ = some v := by
 rw [World.cell?_of_block (h.block k (cell_lt hk) hs)]; exact hk
theorem Grown.to_below {a b : World} {S : Nat → Prop} (h : Grown a b S) {B : Nat} (hs : ∀ k, k < B → ¬ S k) (hB : B ≤ a.heap.size) : Below B a b :=
 ⟨h.os, h.tape, h.output, h.size, fun i hi => h.block i (by omega) (hs i hi)⟩

/-! ### Bytes as cells. -/

/-- v' lies where v lay, or in a new block. -/
def Moved (w : World) (v v' : Value) : Prop := v'.ownBlock = v.ownBlock ∨ ∃ k, v'.ownBlock = some k ∧ w.heap.size ≤ k
theorem Moved.refl (w : World) (v : Value) : Moved w v v := .inl rfl



section
end
end Go.Proofs.Ytogmdfhicbmplaa
namespace Go.Proofs.Ytogmdfhicbmplaa
open Go.RowKit

/-! Num -/
/-! Out -/
/-! OutB -/
def bytesA (n : Nat) (c : Nat → Int) : Array Value := Array.ofFn (n := n) fun i => .int .u8 (c i.val)
def upd (c : Nat → Int) (t : Nat) (v : Int) : Nat → Int := fun i => if i = t then v else c i
theorem bytesA_size (n : Nat) (c : Nat → Int) : (bytesA n c).size = n := by simp [bytesA]
theorem bytesA_get (n : Nat) (c : Nat → Int) (j : Nat) (h : j < n) : (bytesA n c)[j]? = some (.int .u8 (c j)) := by simp [bytesA, h]
theorem bytesA_one (n : Nat) (c : Nat → Int) : (bytesA n c).all (·.oneCell') = true := by
 rw [Array.all_eq_true_iff_forall_mem]; intro v hv; simp [bytesA] at hv; obtain ⟨i, rfl⟩ := hv; rfl
theorem bytesA_sizes (n : Nat) (c d : Nat → Int) : (bytesA n c).size = (bytesA n d).size := by rw [bytesA_size, bytesA_size]
theorem bytesA_congr {n : Nat} {c d : Nat → Int} (h : ∀ i, i < n → c i = d i) : bytesA n c = bytesA n d := by
 apply Array.ext_getElem?
 intro i
 by_cases hi : i < n
 ·rw [bytesA_get _ _ _ hi, bytesA_get _ _ _ hi, h i hi]
 ·rw [Array.getElem?_eq_none (by rw [bytesA_size]; omega), Array.getElem?_eq_none (by rw [bytesA_size]; omega)]
def hl (n : Nat) (c : Nat → Int) : List Int := (List.range n).map c
theorem Try.size36 : (Try.prog.info? 36).map (·.size) = some 32 := by kernel_rfl
theorem Try.size36B (c : Nat → Int) : (Try.prog.info? 36).map (·.size) = some (bytesA 32 c).size := by rw [bytesA_size]; exact Try.size36
theorem run_box_agg {P : Program} (w : World) (t : TypeId) (cs : Array Value) : (Instr.box t (.agg cs)).run P w = .ok (.pointer (some ⟨w.heap.size, 0, none⟩)) (w.alloc (.cells cs t)) := rfl
theorem wpList_boxA {P : Program} {ops : Array Oper} {rest : List Oper} {o : Oper} {a : Act} {w : World} {Q : Exit → Act → World → Prop} (hg : o.guard = none) (t : TypeId) (x : Operand) (ho : o.op = .box t x)
  (cs : Array Value) (hx : a.eval x = .agg cs)
  (h : wpList P ops Q rest (a.put o.dst (.pointer (some ⟨w.heap.size, 0, none⟩))) (w.alloc (.cells cs t))) : wpList P ops Q (o :: rest) a w := by
 refine wpList_plain hg fun K hK => ?_
 unfold Oper.wp execOp
 simp only [ho, hx, Sem.run_bind, run_box_agg, Result.andThen_ok]
 exact hK _ _ h
/-! RefA -/
/-! RefB -/
theorem Try.new36 (w : World) : (Instr.alloc 36 true (.tuple #[])).run Try.prog w = .ok (.pointer (some ⟨w.heap.size, 0, none⟩)) (w.alloc (.cells (bytesA 32 fun _ => 0) 36)) := by kernel_rfl
/-! Wide -/
/-! Tail -/
def Typ (w : World) (k : Nat) (T : TypeId) : Prop := ∃ cs fz, w.heap[k]? = some (.cells cs T fz)
theorem Blk.typ {w : World} {k : Nat} {T : TypeId} {cs : Array Value} (h : Blk w k T cs) : Typ w k T := ⟨cs, _, h⟩
theorem Typ.one {w : World} {k : Nat} {T T' : TypeId} (h : Typ w k T) (h' : Typ w k T') : T = T' := by
 obtain ⟨cs, fz, h⟩ := h
 obtain ⟨cs', fz', h'⟩ := h'
 rw [h] at h'; simp at h'; exact h'.2.1
theorem take_set_next (L : List Value) (n : Nat) (x : Value) (h : n < L.length) : (L.set n x).take (n + 1) = L.take n ++ [x] := by
 rw [List.take_succ_eq_append_getElem (by rw [List.length_set]; exact h), List.getElem_set_self]
 congr 1
 rw [List.take_set]
 exact List.set_eq_of_length_le (by simp; omega)
/-! Book -/
/-! BookB -/
/-! InE -/
theorem results_cell_row2 {P : Program} {fn : Func} {p u : Tmp} {ty : TypeId} (h : fn.results = #[.cell p ty, .tmp u]) (tmps : Array Value) (w : World) (g : Nat) (t : TypeId) (cs : Array Value) (fr : Nat × Nat) (d : TypeDesc) (y : Value)
  (hp : tmps.getD p undef = .pointer (some ⟨g, 0, none⟩)) (hy : tmps.getD u undef = y) (hg : w.heap[g]? = some (.cells cs t fr))
  (hu : P.underlying ty = some d) (hd : (match d with | .struct _ | .array _ _ => true | _ => false) = true) (hi : (P.info? ty).map (·.size) = some cs.size) :
  (results fn tmps).run P w = .ok (.tuple #[.agg cs, y]) w := by
 rw [results_cell_tmp h, hp, hy]
 simp [asAddr, Result.andThen, run_loadVar_row w g t ty cs fr d hg hu hd hi]
/-! Back -/
theorem Try.isAgg5 (w : World) : (isAgg 5).run Try.prog w = .ok false w := by kernel_rfl
theorem Try.cells5 : Try.prog.cellsOf 5 = 1 := by kernel_rfl
theorem Try.size5 : (Try.prog.info? 5).map (·.size) = some 1 := by kernel_rfl
theorem run_part5 (c : Nat → Int) (i : Nat) (hi : i < 32) (w : World) : (part 5 (bytesA 32 c) i).run Try.prog w = .ok (.int .u8 (c i)) w := by
 unfold part
 rw [Sem.run_bind, Try.isAgg5]
 simp [Result.andThen, bytesA_get 32 c i hi]
theorem run_items (c : Nat → Int) (d : Nat) (w : World) : ∀ is : List Nat, (∀ i ∈ is, i < 32) → (Op.eqItems (d + 1) 5 1 (bytesA 32 c) (bytesA 32 c) is).run Try.prog w = .ok true w
 | [], _ => by simp [Op.eqItems]
 | i :: is, h => by
  have hi := h i (by simp)
  have ih := run_items c d w is (fun j hj => h j (by simp [hj]))
  simp only [Op.eqItems, Sem.run_bind, Nat.mul_one, run_part5 c i hi, Result.andThen_ok]
  rw [run_equalIn_int (P := Try.prog) (w := w) d 5 .u8 .u8 (c i) (c i) Try.underlying5]
  simp [Result.andThen_ok, ih]
theorem run_callF {P : Program} (a : Act) (o : Oper) (f : FuncId) (args : Array Operand) (ts : Array TypeId) (ho : o.op = .call { callee := .value (.func f), args := args, argTypes := ts })
  (hf : ∀ (w : World) (vs : Array Value), (callFunc f vs).run P w = .ok (.enter f vs) w) (w : World) :
  (execOp a.eval o).run P w = .ok (.enter f (args.map a.eval)) w := by
 unfold execOp
 simp only [ho]
 simp [resolve, Act.eval, go_sem]
 exact hf w _
theorem wp_callF {P : Program} {Q : Exit → Act → World → Prop} {o : Oper} {a : Act} {w : World} {K : Act → World → Prop} (f : FuncId) (args : Array Operand) (ts : Array TypeId) (ho : o.op = .call { callee := .value (.func f), args := args, argTypes := ts })
  (hf : ∀ (w : World) (vs : Array Value), (callFunc f vs).run P w = .ok (.enter f vs) w)
  (vs : Array Value) (hvs : args.map a.eval = vs)
  (R : Value → World → Prop) (hc : Calls P f vs w fun e w' => ∃ v, e = .returned v ∧ R v w')
  (h : ∀ v w', R v w' → K (a.put o.dst v) w') : o.wp P a w K Q := by
 unfold Oper.wp
 rw [run_callF a o f args ts ho hf w, Oper.upon_enter, hvs]
 refine hc.mono ?_
 rintro e w' ⟨v, rfl, hr⟩
 exact h v w' hr
theorem blk_range {w : World} {b : Nat} {T : TypeId} {cs : Array Value} (h : Blk w b T cs) : w.rangeAt b 0 cs.toList := fun j v hv => by
 rw [Nat.zero_add, h.cell]; simpa using hv
/-! One -/
theorem wp_val {P : Program} {Q : Exit → Act → World → Prop} {o : Oper} {a : Act} {w : World} {K : Act → World → Prop} (v : Value) (hrun : (execOp a.eval o).run P w = .ok (.value v) w) (h : K (a.put o.dst v) w) : o.wp P a w K Q := by
 unfold Oper.wp
 rw [hrun]
 exact h
theorem Try.sizeOf5 (w : World) : (sizeOf 5).run Try.prog w = .ok 1 w := by kernel_rfl
/-! RdA -/
/-! RdC -/
end Go.Proofs.Ytogmdfhicbmplaa
namespace Go.Proofs.Ytogmdfhicbmplaa
open Go.RowKit

end Go.Proofs.Ytogmdfhicbmplaa
namespace Go.Proofs.Ytogmdfhicbmplaa
open Go.RowKit

theorem wpList_wanted {P : Program} {ops : Array Oper} {rest : List Oper} {o : Oper} {a : Act} {w : World} {Q : Exit → Act → World → Prop} (hw : Region.wanted o (yielded ops a.tmps) = true)
  (h : ∀ K : Act → World → Prop, (∀ a w, wpList P ops Q rest a w → K a w) → o.wp P a w K Q) : wpList P ops Q (o :: rest) a w :=
 wpList_step fun K hK => by rw [if_pos hw]; exact h K hK

theorem wp_bldG {P : Program} {o : Oper} {a : Act} {w : World} {K : Act → World → Prop} {Q : Exit → Act → World → Prop} (t : TypeId) (parts : Array (Nat × Operand)) (ho : o.op = .build t parts)
  (cells : Array Value) (hf : P.built t (parts.map fun (i, x) => (i, a.eval x)).toList = some cells) (h : K (a.put o.dst (.agg cells)) w) : o.wp P a w K Q :=
 wp_build t parts ho (by rw [hf]; rfl) (by rw [hf]; exact h)

/-- A list of operations yet to do, kept from every look behind its name. -/
structure WL (P : Program) (ops : Array Oper) (Q : Exit → Act → World → Prop) (l : List Oper) (a : Act) (w : World) : Prop where
 out : wpList P ops Q l a w
theorem WL.skip {P : Program} {ops : Array Oper} {rest : List Oper} {o : Oper} {a : Act} {w : World} {Q : Exit → Act → World → Prop} (hw : Region.wanted o (yielded ops a.tmps) = false)
  (h : WL P ops Q rest (a.put o.dst undef) w) : WL P ops Q (o :: rest) a w :=
 ⟨wpList_step fun K hK => by rw [if_neg (by rw [hw]; simp)]; exact hK _ _ h.out⟩
theorem WL.val {P : Program} {ops : Array Oper} {rest : List Oper} {o : Oper} {a : Act} {w : World} {Q : Exit → Act → World → Prop} (hw : Region.wanted o (yielded ops a.tmps) = true) (v : Value)
  (hrun : (execOp a.eval o).run P w = .ok (.value v) w) (h : WL P ops Q rest (a.put o.dst v) w) : WL P ops Q (o :: rest) a w :=
 ⟨wpList_wanted hw fun _ hK => wp_val v hrun (hK _ _ h.out)⟩
theorem WL.nil {P : Program} {ops : Array Oper} {a : Act} {w : World} {Q : Exit → Act → World → Prop} (h : Q .normal a w) : WL P ops Q [] a w := ⟨h⟩
theorem pqA {α : Type} (l : List α) (i : Nat) (a : α) : l.toArray.setIfInBounds i a = (l.set i a).toArray := List.setIfInBounds_toArray ..
theorem pqB {α : Type} (a b : α) (l : List α) : (a :: l).set 0 b = b :: l := List.set_cons_zero ..
theorem pqC {α : Type} (a b : α) (l : List α) (n : Nat) : (a :: l).set (n + 1) b = a :: l.set n b := List.set_cons_succ ..
theorem VlS {P : Program} {ops : Array Oper} {rest : List Oper} {o : Oper} {a a' : Act} {w : World} {Q : Exit → Act → World → Prop} (v : Value) (h : WL P ops Q rest a' w) (hw : Region.wanted o (yielded ops a.tmps) = true := by kernel_rfl) (hrun : (execOp a.eval o).run P w = .ok (.value v) w := by go_simp) (ha : a.put o.dst v = a' := by simp only [Act.put, pqA, pqB, pqC]; exact rfl) : WL P ops Q (o :: rest) a w := WL.val hw v hrun (by rw [ha]; exact h)
theorem SkS {P : Program} {ops : Array Oper} {rest : List Oper} {o : Oper} {a a' : Act} {w : World} {Q : Exit → Act → World → Prop} (h : WL P ops Q rest a' w) (hw : Region.wanted o (yielded ops a.tmps) = false := by kernel_rfl) (ha : a.put o.dst undef = a' := by simp only [Act.put, pqA, pqB, pqC]; exact rfl) : WL P ops Q (o :: rest) a w := WL.skip hw (by rw [ha]; exact h)
theorem tkS {P : Program} {md : Region.Mode} {ops : Array Oper} {S : World → Prop} {Q : Exit → Act → World → Prop} {i : Nat} {oi : Oper} {v : Value} {fuel : Nat} {listed : Array Bool} {a a' : Act} {w : World} (hi : ops[i]? = some oi) (hy : YieldsIf P ops S oi v a) (hS : S w) (h : wpAnyH P md ops Q S fuel (listed.setIfInBounds i true) a' w) (hs : Region.noSelect ops = true := by kernel_rfl) (hf : Region.free md ops listed i = true := by kernel_rfl) (hr : (Region.ready md ops listed).contains i = true := by kernel_rfl) (hQ : ∀ c a w, Q (.panic c) (a.put oi.dst v) w → Q (.panic c) a w := by exact fun _ _ _ h => h) (ha : a.put oi.dst v = a' := by simp only [Act.put, pqA, pqB, pqC]; exact rfl) : wpAnyH P md ops Q S (fuel + 1) listed a w := wpAnyH_take hi hs hf hr hQ hy hS (by rw [ha]; exact h)
theorem rgn {P : Program} {ops : Array Oper} {a : Act} {w : World} {Q : Exit → Act → World → Prop} {id : Nat} (h : WL P ops Q ops.toList a w) : (Code.region id ops false).wp P Q a w := wp_region_list h.out
theorem WL.mid {P : Program} {ops : Array Oper} {rest : List Oper} {op : Oper} {a : Act} {w : World} {Q : Exit → Act → World → Prop} (hw : Region.wanted op (yielded ops a.tmps) = true) (ty : TypeId) (x : Operand) (ho : op.op = .load ty x)
  (b o : Nat) (hx : a.eval x = .pointer (some ⟨b, o, none⟩)) (cs : List Value) (d : TypeDesc) (hc : w.rangeAt b o cs)
  (hu : P.underlying ty = some d) (hd : d.isRow = true) (hi : (P.info? ty).map (·.size) = some cs.length)
  (h : WL P ops Q rest (a.put op.dst (.agg cs.toArray)) w) : WL P ops Q (op :: rest) a w :=
 ⟨wpList_wanted hw fun _ hK => wp_load_mid ty x ho b o hx cs d hc hu hd hi (hK _ _ h.out)⟩
theorem WL.call {P : Program} {ops : Array Oper} {rest : List Oper} {o : Oper} {a : Act} {w : World} {Q : Exit → Act → World → Prop} (hw : Region.wanted o (yielded ops a.tmps) = true)
  (h : ∀ K : Act → World → Prop, (∀ a w, WL P ops Q rest a w → K a w) → o.wp P a w K Q) : WL P ops Q (o :: rest) a w :=
 ⟨wpList_wanted hw fun K hK => h K fun a w h => hK a w h.out⟩

section
variable {P : Program} {ops : Array Oper} {rest : List Oper} {o : Oper} {a : Act} {w : World} {Q : Exit → Act → World → Prop}
theorem WL.row (hw : Region.wanted o (yielded ops a.tmps) = true) (ty : TypeId) (x : Operand) (ho : o.op = .load ty x)
  (b : Nat) (hx : a.eval x = .pointer (some ⟨b, 0, none⟩)) (t : TypeId) (cs : Array Value) (d : TypeDesc) (hc : Blk w b t cs)
  (hu : P.underlying ty = some d) (hd : d.isRow = true) (hi : (P.info? ty).map (·.size) = some cs.size)
  (h : WL P ops Q rest (a.put o.dst (.agg cs)) w) : WL P ops Q (o :: rest) a w :=
 WL.mid hw ty x ho b 0 hx cs.toList d (blk_range hc) hu hd (by rw [Array.length_toList]; exact hi) (by rw [Array.toArray_toList]; exact h)
theorem WL.midA (hw : Region.wanted o (yielded ops a.tmps) = true) (ty : TypeId) (x : Operand) (ho : o.op = .load ty x)
  (b of : Nat) (hx : a.eval x = .pointer (some ⟨b, of, none⟩)) (cs : Array Value) (d : TypeDesc) (hc : w.rangeAt b of cs.toList)
  (hu : P.underlying ty = some d) (hd : d.isRow = true) (hi : (P.info? ty).map (·.size) = some cs.size)
  (h : WL P ops Q rest (a.put o.dst (.agg cs)) w) : WL P ops Q (o :: rest) a w :=
 WL.mid hw ty x ho b of hx cs.toList d hc hu hd (by rw [Array.length_toList]; exact hi) (by rw [Array.toArray_toList]; exact h)
theorem WL.new (hw : Region.wanted o (yielded ops a.tmps) = true) (t : TypeId) (ho : o.op = .alloc t) (cells : Array Value)
  (hf : ∀ w : World, (Instr.alloc t true (.tuple #[])).run P w = .ok (.pointer (some ⟨w.heap.size, 0, none⟩)) (w.alloc (.cells cells t)))
  (h : WL P ops Q rest (a.put o.dst (.pointer (some ⟨w.heap.size, 0, none⟩))) (w.alloc (.cells cells t))) : WL P ops Q (o :: rest) a w :=
 ⟨wpList_wanted hw fun K hK => by
  unfold Oper.wp execOp
  simp only [ho, Sem.run_bind, hf w, Result.andThen_ok]
  exact hK _ _ h.out⟩
theorem WL.box (hw : Region.wanted o (yielded ops a.tmps) = true) (t : TypeId) (x : Operand) (ho : o.op = .box t x) (cs : Array Value) (hx : a.eval x = .agg cs)
  (h : WL P ops Q rest (a.put o.dst (.pointer (some ⟨w.heap.size, 0, none⟩))) (w.alloc (.cells cs t))) : WL P ops Q (o :: rest) a w :=
 ⟨wpList_wanted hw fun K hK => by
  unfold Oper.wp execOp
  simp only [ho, hx, Sem.run_bind, run_box_agg, Result.andThen_ok]
  exact hK _ _ h.out⟩
theorem WL.storeR (hw : Region.wanted o (yielded ops a.tmps) = true) (ty : TypeId) (x y : Operand) (ho : o.op = .store ty x y)
  (g : Nat) (cells : Array Value) (hx : a.eval x = .pointer (some ⟨g, 0, none⟩)) (hy : a.eval y = .agg cells)
  (t : TypeId) (old : Array Value) (hg : Blk w g t old) (hi : (P.info? ty).map (·.size) = some cells.size) (hold : old.size = cells.size) (h1 : cells.all (·.oneCell') = true)
  (h : WL P ops Q rest (a.put o.dst undef) (w.setRow g cells)) : WL P ops Q (o :: rest) a w :=
 ⟨wpList_wanted hw fun _ hK => wp_store_row ty x y ho g cells hx hy t old hg hi hold h1 (hK _ _ h.out)⟩
theorem WL.cell (hw : Region.wanted o (yielded ops a.tmps) = true) (w' : World) (hrun : (execOp a.eval o).run P w = .ok .skip w')
  (h : WL P ops Q rest (a.put o.dst undef) w') : WL P ops Q (o :: rest) a w :=
 ⟨wpList_wanted hw fun _ hK => by unfold Oper.wp; rw [hrun, Oper.upon_skip]; exact hK _ _ h.out⟩
theorem WL.valW (hw : Region.wanted o (yielded ops a.tmps) = true) (v : Value) (w' : World) (hrun : (execOp a.eval o).run P w = .ok (.value v) w')
  (h : WL P ops Q rest (a.put o.dst v) w') : WL P ops Q (o :: rest) a w :=
 ⟨wpList_wanted hw fun _ hK => by unfold Oper.wp; rw [hrun, Oper.upon_value]; exact hK _ _ h.out⟩
theorem WL.bld (hw : Region.wanted o (yielded ops a.tmps) = true) (t : TypeId) (parts : Array (Nat × Operand)) (ho : o.op = .build t parts)
  (vs : List (Nat × Value)) (hv : (parts.map fun (i, x) => (i, a.eval x)).toList = vs) (cells : Array Value) (hf : P.built t vs = some cells)
  (h : WL P ops Q rest (a.put o.dst (.agg cells)) w) : WL P ops Q (o :: rest) a w :=
 ⟨wpList_wanted hw fun _ hK => wp_bldG t parts ho cells (by rw [hv]; exact hf) (hK _ _ h.out)⟩
theorem WL.bs (hw : Region.wanted o (yielded ops a.tmps) = true) (t : TypeId) (n : Nat) (parts : Array (Nat × Operand)) (ho : o.op = .buildSlice t n parts)
  (vs : Array (Nat × Value)) (hv : (parts.map fun (i, x) => (i, a.eval x)) = vs) (v : Value) (w' : World) (hrun : (Instr.buildSlice t n vs).run P w = .ok v w')
  (h : WL P ops Q rest (a.put o.dst v) w') : WL P ops Q (o :: rest) a w :=
 ⟨wpList_wanted hw fun K hK => by
  unfold Oper.wp execOp
  simp only [ho, hv, Sem.run_bind, hrun, Result.andThen_ok]
  exact hK _ _ h.out⟩
/-- A whole value into a part of a block. -/
theorem WL.part (hw : Region.wanted o (yielded ops a.tmps) = true) (ty : TypeId) (x y : Operand) (ho : o.op = .store ty x y)
  (g off : Nat) (cells : Array Value) (hx : a.eval x = .pointer (some ⟨g, off, none⟩)) (hy : a.eval y = .agg cells)
  (t : TypeId) (cur : Array Value) (hg : Blk w g t cur) (hi : (P.info? ty).map (·.size) = some cells.size) (hfit : off + cells.size ≤ cur.size) (h1 : cells.all (·.oneCell') = true)
  (new : Array Value) (hn : (cur.toList.take off ++ cells.toList ++ cur.toList.drop (off + cells.size)).toArray = new)
  (h : WL P ops Q rest (a.put o.dst undef) (w.setRow g new)) : WL P ops Q (o :: rest) a w := by
 subst hn
 refine ⟨wpList_wanted hw fun K hK => ?_⟩
 have hst := run_storeCells_at P g off t cells.toList 0 cur w hg (by simpa using hfit) (fun v hv => (Array.all_eq_true_iff_forall_mem.1 h1) v (by simpa using hv))
 have hrun : (storeVar ty ⟨g, off, none⟩ (.agg cells)).run P w = .ok () (w.setRow g (cur.toList.take off ++ cells.toList ++ cur.toList.drop (off + cells.size)).toArray) := by
  cases hq : P.info? ty with
  | none => simp [hq] at hi
  | some i =>
   have hs : cells.size = i.size := by simp [hq] at hi; omega
   simp only [Nat.add_zero, Array.length_toList] at hst
   simp [storeVar, sizeOf, typeInfo, hq, Value.cells, hs, hst]
 unfold Oper.wp execOp
 simp only [ho, hx, hy, Instr.storeAt, Instr.sureAddr, Sem.run_bind, Sem.run_pure, Result.andThen_ok, hrun]
 exact hK _ _ h.out
theorem run_callV (a : Act) (o : Oper) (f : FuncId) (x : Operand) (args : Array Operand) (ts : Array TypeId) (ho : o.op = .call { callee := .value x, args := args, argTypes := ts }) (hx : a.eval x = .func (.func f) #[] #[])
  (hf : ∀ (w : World) (vs : Array Value), (callFunc f vs).run P w = .ok (.enter f vs) w) (w : World) :
  (execOp a.eval o).run P w = .ok (.enter f (args.map a.eval)) w := by
 unfold execOp
 simp only [ho, resolve, hx]
 generalize Array.map a.eval args = vs
 simp [go_sem]
 exact hf w _
/-- A call, by its contract. -/
theorem WL.callF (hw : Region.wanted o (yielded ops a.tmps) = true) (f : FuncId) (args : Array Operand) (ts : Array TypeId) (ho : o.op = .call { callee := .value (.func f), args := args, argTypes := ts })
  (hf : ∀ (w : World) (vs : Array Value), (callFunc f vs).run P w = .ok (.enter f vs) w) (vs : Array Value) (hvs : args.map a.eval = vs)
  (hc : Calls P f vs w fun e w' => ∃ v, e = .returned v ∧ WL P ops Q rest (a.put o.dst v) w') : WL P ops Q (o :: rest) a w :=
 ⟨wpList_wanted hw fun K hK => by
  unfold Oper.wp
  rw [run_callF a o f args ts ho hf w, Oper.upon_enter, hvs]
  refine hc.mono ?_
  rintro e w' ⟨v, rfl, hr⟩
  exact hK _ _ hr.out⟩
end
theorem Blk.c {w : World} {b : Nat} {T : TypeId} {cs : Array Value} (h : Blk w b T cs) (j : Nat) {v : Value} (hv : cs[j]? = some v) : w.cell? ⟨b, j, none⟩ = some v := by rw [h.cell]; exact hv
end Go.Proofs.Ytogmdfhicbmplaa
namespace Go.Proofs.Ytogmdfhicbmplaa
open Go.RowKit

abbrev Hs := Vector UInt8 32

namespace Hs
def f (h : Hs) (i : Nat) : Int := ((h.toArray.getD i 0).toNat : Int)
theorem f_get (h : Hs) (i : Nat) (hi : i < 32) : h.f i = ((h[i]'hi).toNat : Int) := by
 unfold f
 rw [Array.getD_eq_getD_getElem?, Array.getElem?_eq_getElem (by rw [h.size_toArray]; exact hi)]
 rfl
theorem ext' {a b : Hs} (h : ∀ i, i < 32 → a.f i = b.f i) : a = b := by
 apply Vector.ext
 intro i hi
 have h1 := h i hi
 rw [f_get a i hi, f_get b i hi] at h1
 exact UInt8.toNat_inj.1 (by omega)
def mk' (c : Nat → Int) (_ : ∀ i, i < 32 → 0 ≤ c i ∧ c i < 256) : Hs := Vector.ofFn fun i : Fin 32 => UInt8.ofNat (c i.val).toNat
theorem mk'_f (c : Nat → Int) (hc : ∀ i, i < 32 → 0 ≤ c i ∧ c i < 256) (i : Nat) (hi : i < 32) : (mk' c hc).f i = c i := by
 rw [f_get _ i hi]
 unfold mk'
 rw [Vector.getElem_ofFn, UInt8.toNat_ofNat']
 have := hc i hi
 show (((c i).toNat % 2 ^ 8 : Nat) : Int) = c i
 omega
theorem default_f (i : Nat) (hi : i < 32) : (default : Hs).f i = 0 := by
 rw [f_get _ i hi]
 have : (default : Hs)[i]'hi = 0 := by
  have : ∀ k : Fin 32, (default : Hs)[k.val]'k.isLt = 0 := by decide +kernel
  exact this ⟨i, hi⟩
 rw [this]; rfl
end Hs
theorem run_items2 (c e : Nat → Int) (d : Nat) (w : World) : ∀ is : List Nat, (∀ i ∈ is, i < 32) → (Op.eqItems (d + 1) 5 1 (bytesA 32 c) (bytesA 32 e) is).run Try.prog w = .ok (is.all fun i => c i == e i) w
 | [], _ => by simp [Op.eqItems]
 | i :: is, h => by
  have hi := h i (by simp)
  have ih := run_items2 c e d w is (fun j hj => h j (by simp [hj]))
  simp only [Op.eqItems, Sem.run_bind, Nat.mul_one, run_part5 c i hi, run_part5 e i hi, Result.andThen_ok]
  rw [run_equalIn_int (P := Try.prog) (w := w) d 5 .u8 .u8 (c i) (e i) Try.underlying5]
  by_cases hh : c i = e i
  ·simp [Result.andThen_ok, ih, hh]
  ·simp [Result.andThen_ok, hh]
theorem run_equal_arr2 (c e : Nat → Int) (w : World) : (Op.equalIn 10000 36 (.agg (bytesA 32 c)) (.agg (bytesA 32 e))).run Try.prog w = .ok ((List.range 32).all fun i => c i == e i) w := by
 obtain ⟨i, hi, _⟩ := Option.map_eq_some_iff.1 Try.size5
 rw [run_equalIn_array (P := Try.prog) w 9999 _ _ Try.underlying36 hi, Try.cells5]
 exact run_items2 c e 9998 w _ (fun j hj => List.mem_range.1 hj)
theorem all_eq_iff (x y : Hs) : ((List.range 32).all fun i => x.f i == y.f i) = decide (x = y) := by
 by_cases h : x = y
 ·subst h; simp
 ·rw [decide_eq_false h, Bool.eq_false_iff]
  intro h2
  refine h (Hs.ext' fun i hi => ?_)
  have := List.all_eq_true.1 h2 i (List.mem_range.2 hi)
  simpa using this
theorem run_eqlH (x y : Hs) (w : World) : (binOp .eql 36 (.agg (bytesA 32 x.f)) (.agg (bytesA 32 y.f))).run Try.prog w = .ok (.bool (decide (x = y))) w := by
 rw [run_eql_struct, run_equal_arr2, all_eq_iff]; rfl
theorem run_neqH (x y : Hs) (w : World) : (binOp .neq 36 (.agg (bytesA 32 x.f)) (.agg (bytesA 32 y.f))).run Try.prog w = .ok (.bool (!decide (x = y))) w := by
 rw [run_neq_struct, run_equal_arr2, all_eq_iff]; rfl

/-- A hash's cells. -/
def encH (h : Hs) : List Value := (bytesA 32 h.f).toList
theorem encH_len (h : Hs) : (encH h).length = 32 := by rw [encH, Array.length_toList, bytesA_size]
theorem encH_get (h : Hs) (j : Nat) (hj : j < 32) : (encH h)[j]? = some (.int .u8 (h.f j)) := by rw [encH, Array.getElem?_toList, bytesA_get _ _ _ hj]
theorem encH_one (h : Hs) (v : Value) (hv : v ∈ encH h) : v.oneCell' = true := by
 have := Array.all_eq_true'.1 (bytesA_one 32 h.f) v (by unfold encH at hv; exact Array.mem_toList_iff.1 hv)
 simpa using this
theorem encH_arr (h : Hs) : (encH h).toArray = bytesA 32 h.f := by rw [encH, Array.toArray_toList]
/-- The cells of hashes, one behind the other. -/
def flatH (L : List Hs) : List Value := L.flatMap encH
theorem flatH_nil : flatH [] = [] := rfl
theorem flatH_cons (x : Hs) (L : List Hs) : flatH (x :: L) = encH x ++ flatH L := rfl
theorem flatH_app (L M : List Hs) : flatH (L ++ M) = flatH L ++ flatH M := by simp [flatH]
theorem flatH_len : ∀ L : List Hs, (flatH L).length = L.length * 32
 | [] => rfl
 | x :: L => by rw [flatH_cons, List.length_append, encH_len, flatH_len L, List.length_cons]; omega
theorem flatH_get : ∀ (L : List Hs) (i : Nat) (hi : i < L.length) (j : Nat), j < 32 → (flatH L)[i * 32 + j]? = (encH L[i])[j]?
 | x :: L, 0, _, j, hj => by rw [flatH_cons, List.getElem?_append_left (by rw [encH_len]; omega)]; simp
 | x :: L, i + 1, hi, j, hj => by
  rw [flatH_cons, List.getElem?_append_right (by rw [encH_len]; omega), encH_len, show (i + 1) * 32 + j - 32 = i * 32 + j by omega]
  simpa using flatH_get L i (by simpa using hi) j hj
theorem flatH_one (L : List Hs) (v : Value) (hv : v ∈ flatH L) : v.oneCell' = true := by
 obtain ⟨x, _, hx⟩ := List.mem_flatMap.1 hv
 exact encH_one x v hx

/-- A slice of hashes: what it holds. -/
def HRow (w : World) (v : Value) (L : List Hs) : Prop :=
 (∃ a c, v = .slice a 0 c ∧ L = [] ∧ (a = none → c = 0)) ∨ ∃ b off cap, v = .slice (some ⟨b, off, none⟩) L.length cap ∧ L.length ≤ cap ∧ w.rangeAt b off (flatH L)
theorem rangeAt_elem {w : World} {b off : Nat} {L : List Hs} (h : w.rangeAt b off (flatH L)) (i : Nat) (hi : i < L.length) : w.rangeAt b (off + i * 32) (encH L[i]) := by
 intro j v hv
 have hj : j < 32 := by
  have := (List.getElem?_eq_some_iff.1 hv).1
  rwa [encH_len] at this
 rw [Nat.add_assoc]
 exact h _ v (by rw [flatH_get L i hi j hj]; exact hv)
theorem HRow.form {w : World} {v : Value} {L : List Hs} (h : HRow w v L) : ∃ a c, v = .slice a L.length c := by
 rcases h with ⟨a, c, rfl, rfl, _⟩ | ⟨b, off, cap, rfl, _⟩
 ·exact ⟨a, c, rfl⟩
 ·exact ⟨_, cap, rfl⟩
theorem HRow.at {w : World} {a : Option Addr} {n c : Nat} {L : List Hs} (h : HRow w (.slice a n c) L) (hL : 0 < L.length) : ∃ b off, a = some ⟨b, off, none⟩ ∧ n = L.length ∧ L.length ≤ c ∧ w.rangeAt b off (flatH L) := by
 rcases h with ⟨_, _, _, rfl, _⟩ | ⟨b, off, cap, h1, h2, h3⟩
 ·simp at hL
 ·injection h1 with h1 h4 h5
  subst h1 h4 h5
  exact ⟨b, off, rfl, rfl, h2, h3⟩
theorem rangeAt_lt {w : World} {b off : Nat} {L : List Hs} (h : w.rangeAt b off (flatH L)) (hL : 0 < L.length) : b < w.heap.size := by
 have := h 0 (.int .u8 (L[0].f 0)) ((flatH_get L 0 hL 0 (by omega)).trans (encH_get _ _ (by omega)))
 exact cell_lt this
theorem rangeAt_below {w w' : World} {B b off : Nat} {cs : List Value} (h : w.rangeAt b off cs) (hb : Below B w w') (hlt : b < B) : w'.rangeAt b off cs := fun j v hv => by
 rw [hb.cell (p := ⟨b, off + j, none⟩) hlt]; exact h j v hv
theorem HRow.below {w w' : World} {v : Value} {L : List Hs} (h : HRow w v L) (hb : Below w.heap.size w w') : HRow w' v L := by
 rcases h with h | ⟨b, off, cap, h1, h2, h3⟩
 ·exact .inl h
 ·by_cases hL : 0 < L.length
  ·exact .inr ⟨b, off, cap, h1, h2, rangeAt_below h3 hb (rangeAt_lt h3 hL)⟩
  ·have : L = [] := List.eq_nil_of_length_eq_zero (by omega)
   subst this
   exact .inl ⟨_, _, h1, rfl, fun h => by cases h⟩
theorem HRow.of_owns {w : World} {base n : Nat} {v : Value} {L : List Hs} (h : w.ownsRow base 36 32 v n (flatH L)) : HRow w v L := by
 have hn : n = L.length := by have := h.1; rw [flatH_len] at this; omega
 subst hn
 rcases h.2 with ⟨rfl, h0⟩ | ⟨g, cap, cur, rfl, _, hg, hc, _, _, ht⟩
 ·exact .inl ⟨none, 0, rfl, List.eq_nil_of_length_eq_zero h0, fun _ => rfl⟩
 ·refine .inr ⟨g, 0, cap, rfl, hc, fun j v hv => ?_⟩
  rw [Nat.zero_add, cell_of_row w g j cur 36 (0, 0) hg]
  rw [← ht, List.getElem?_take] at hv
  split at hv
  ·rwa [Array.getElem?_toList] at hv
  ·cases hv
theorem Try.size36L (h : Hs) : (Try.prog.info? 36).map (·.size) = some (encH h).length := by rw [encH_len]; exact Try.size36

theorem run_neqL (x y : Hs) (w : World) : (binOp .neq 36 (.agg (encH x).toArray) (.agg (encH y).toArray)).run Try.prog w = .ok (.bool (!decide (x = y))) w := by
 rw [encH_arr, encH_arr]; exact run_neqH x y w
theorem run_eqlL (x y : Hs) (w : World) : (binOp .eql 36 (.agg (encH x).toArray) (.agg (encH y).toArray)).run Try.prog w = .ok (.bool (decide (x = y))) w := by
 rw [encH_arr, encH_arr]; exact run_eqlH x y w
theorem rangeAt_drewN {w : World} {b o n : Nat} {cs : List Value} (h : w.rangeAt b o cs) : (w.drewN n).rangeAt b o cs := h
theorem rangeAt_drew {w : World} {b o : Nat} {cs : List Value} (h : w.rangeAt b o cs) : w.drew.rangeAt b o cs := h

theorem Try.info36 : (Try.prog.info? 36).map (fun i => (i.zero, i.size, i.bytes)) = some (some (.agg (bytesA 32 fun _ => 0)), 32, 32) := by kernel_rfl
theorem Try.bs0 (w : World) : (Instr.buildSlice 37 0 #[]).run Try.prog w = .ok (.slice (some ⟨w.heap.size, 0, none⟩) 0 0) (w.alloc (.cells #[] 36)) := by kernel_rfl
theorem Try.bs1 (c : Nat → Int) (w : World) : (Instr.buildSlice 37 1 #[(0, .agg (bytesA 32 c))]).run Try.prog w = .ok (.slice (some ⟨w.heap.size, 0, none⟩) 1 1) (w.alloc (.cells (bytesA 32 c) 36)) := by kernel_rfl

/-- A literal of hashes. -/
theorem wpList_bs {P : Program} {ops : Array Oper} {rest : List Oper} {o : Oper} {a : Act} {w : World} {Q : Exit → Act → World → Prop} (hg : o.guard = none) (t : TypeId) (n : Nat) (parts : Array (Nat × Operand)) (ho : o.op = .buildSlice t n parts)
  (vs : Array (Nat × Value)) (hv : (parts.map fun (i, x) => (i, a.eval x)) = vs) (v : Value) (w' : World) (hrun : (Instr.buildSlice t n vs).run P w = .ok v w')
  (h : wpList P ops Q rest (a.put o.dst v) w') : wpList P ops Q (o :: rest) a w := by
 refine wpList_plain hg fun K hK => ?_
 unfold Oper.wp execOp
 simp only [ho, hv, Sem.run_bind, hrun, Result.andThen_ok]
 exact hK _ _ h

theorem ownsH_nil (w : World) (base : Nat) : w.ownsRow base 36 32 (.slice none 0 0) 0 (flatH []) := ⟨rfl, .inl ⟨rfl, rfl⟩⟩
theorem ownsH_block {w : World} {base : Nat} {v : Value} {n : Nat} {xs : List Value} (h : w.ownsRow base 36 32 v n xs) : ∀ k, v.ownBlock = some k → base ≤ k := by
 intro k hk
 obtain ⟨_, h2⟩ := h
 rcases h2 with ⟨rfl, _⟩ | ⟨g, cap, cur, rfl, hg, _⟩
 ·simp [Value.ownBlock] at hk
 ·simp [Value.ownBlock] at hk; omega

/-- A row of hashes behind hashes of the call's own. -/
theorem wpList_appH {ops : Array Oper} {rest : List Oper} {o : Oper} {a : Act} {w : World} {Q : Exit → Act → World → Prop} (hgd : o.guard = none) (s x : Operand)
  (ho : o.op = .call { callee := .builtin .append, args := #[s, x], argTypes := #[37, 37] }) (base : Nat) (v vx : Value) (L M : List Hs)
  (hs : a.eval s = v) (hx : a.eval x = vx) (hown : w.ownsRow base 36 32 v L.length (flatH L)) (hrow : HRow w vx M) (hb : L.length + M.length ≤ 4398046511104) (hbase : base ≤ w.heap.size)
  (h : ∀ v' w', w'.ownsRow base 36 32 v' (L ++ M).length (flatH (L ++ M)) → w.grownBy w' v.ownBlock → wpList Try.prog ops Q rest (a.put o.dst v') w') : wpList Try.prog ops Q (o :: rest) a w := by
 obtain ⟨i, hi, hzz⟩ := Option.map_eq_some_iff.1 Try.info36
 simp only [Prod.mk.injEq] at hzz
 obtain ⟨hz, hsz, hby⟩ := hzz
 have hzs : (Value.agg (bytesA 32 fun _ => 0)).cells.size = 32 := by show (bytesA 32 fun _ => 0).size = 32; exact bytesA_size _ _
 rw [flatH_app, List.length_append] at h
 rcases hrow with ⟨ad, c, rfl, rfl, hac⟩ | ⟨b, off, cap, rfl, hcap, hc⟩
 ·cases ad with
  | none =>
   obtain rfl := hac rfl
   refine wpList_append_own_none hgd s x 37 ho base 36 i 32 Try.underlying37 hi v L.length _ hs hown hx (h v w ?_ (World.grownBy.refl w _))
   simpa [flatH_nil] using hown
  | some ad =>
   refine wpList_append_own w hgd s x 37 ho base 36 i _ 32 32 Try.underlying37 hi hz hsz hby hzs (by omega) v L.length _ hs hown ad 0 c [] hx rfl (fun j u hu => by simp at hu) (fun u hu => by simp at hu) (by unfold maxLen; simp at hb; omega) (by simp at hb; omega) hbase ?_
   intro v' w' h1 h2 _
   exact h v' w' h1 h2
 ·refine wpList_append_own w hgd s x 37 ho base 36 i _ 32 32 Try.underlying37 hi hz hsz hby hzs (by omega) v L.length _ hs hown ⟨b, off, none⟩ M.length cap (flatH M) hx (flatH_len M)
   (fun j u hu => by rw [Addr.add_mid]; exact hc j u hu) (flatH_one M) (by unfold maxLen; omega) (by omega) hbase ?_
  intro v' w' h1 h2 _
  exact h v' w' h1 h2
theorem rangeAt_take {w : World} {b off : Nat} {L : List Hs} (h : w.rangeAt b off (flatH L)) (k : Nat) : w.rangeAt b off (flatH (L.take k)) := fun j v hv => by
 refine h j v ?_
 conv => lhs; rw [← List.take_append_drop k L, flatH_app]
 rw [List.getElem?_append_left (List.getElem?_eq_some_iff.1 hv).1]; exact hv
theorem rangeAt_drop {w : World} {b off : Nat} {L : List Hs} (h : w.rangeAt b off (flatH L)) (k : Nat) (hk : k ≤ L.length) : w.rangeAt b (off + k * 32) (flatH (L.drop k)) := fun j v hv => by
 rw [Nat.add_assoc]
 refine h (k * 32 + j) v ?_
 conv => lhs; rw [← List.take_append_drop k L, flatH_app]
 have hl : (flatH (L.take k)).length = k * 32 := by rw [flatH_len, List.length_take, Nat.min_eq_left hk]
 rw [List.getElem?_append_right (by rw [hl]; omega), hl, show k * 32 + j - k * 32 = j by omega]; exact hv

theorem ownsH_mono {w : World} {base base' n : Nat} {v : Value} {xs : List Value} (h : w.ownsRow base 36 32 v n xs) (hb : base' ≤ base) : w.ownsRow base' 36 32 v n xs := by
 refine ⟨h.1, ?_⟩
 rcases h.2 with h2 | ⟨g, cap, cur, h1, h3, h4⟩
 ·exact .inl h2
 ·exact .inr ⟨g, cap, cur, h1, by omega, h4⟩
theorem ownsH_below {w w' : World} {base n : Nat} {v : Value} {xs : List Value} (h : w.ownsRow base 36 32 v n xs) (hb : Below w.heap.size w w') : w'.ownsRow base 36 32 v n xs := by
 refine ⟨h.1, ?_⟩
 rcases h.2 with h2 | ⟨g, cap, cur, h1, h3, h4, h5⟩
 ·exact .inl h2
 ·exact .inr ⟨g, cap, cur, h1, h3, by rw [hb.block g (Array.getElem?_eq_some_iff.1 h4).1]; exact h4, h5⟩
theorem HRow.mk {w : World} {b off n c : Nat} {L : List Hs} (hn : n = L.length) (hc : n ≤ c) (h : w.rangeAt b off (flatH L)) : HRow w (.slice (some ⟨b, off, none⟩) n c) L := by
 subst hn
 exact .inr ⟨b, off, c, rfl, hc, h⟩
theorem flatH_take : ∀ (L : List Hs) (k : Nat), (flatH L).take (k * 32) = flatH (L.take k)
 | _, 0 => by simp [flatH_nil]
 | [], k + 1 => by simp [flatH_nil]
 | x :: L, k + 1 => by
  rw [flatH_cons, List.take_succ_cons, flatH_cons, ← flatH_take L k, List.take_append, encH_len, List.take_of_length_le (by rw [encH_len]; omega), show (k + 1) * 32 - 32 = k * 32 by omega]
theorem flatH_drop : ∀ (L : List Hs) (k : Nat), (flatH L).drop (k * 32) = flatH (L.drop k)
 | _, 0 => by simp
 | [], k + 1 => by simp [flatH_nil]
 | x :: L, k + 1 => by
  rw [flatH_cons, List.drop_succ_cons, ← flatH_drop L k, List.drop_append, encH_len, List.drop_of_length_le (by rw [encH_len]; omega), show (k + 1) * 32 - 32 = k * 32 by omega]
  rfl
theorem flatH_arr_size (L : List Hs) : (flatH L).toArray.size = L.length * 32 := by rw [List.size_toArray, flatH_len]
theorem zeroCellsH (n : Nat) : (Builtin.zeroCells (bytesA 32 fun _ => 0) n).toList = flatH (List.replicate n default) := by
 unfold Builtin.zeroCells
 rw [bytesA_size]
 apply List.ext_getElem?
 intro t
 by_cases ht : t < n * 32
 ·have h1 := flatH_get (List.replicate n default) (t / 32) (by simp; omega) (t % 32) (by omega)
  rw [show t / 32 * 32 + t % 32 = t by omega, encH_get _ _ (by omega)] at h1
  rw [h1]
  have h2 : t % 32 < 32 := by omega
  have h3 : (bytesA 32 fun _ => 0)[t % 32]! = Value.int .u8 0 := by
   rw [getElem!_pos _ _ (by rw [bytesA_size]; exact h2)]
   have := bytesA_get 32 (fun _ => 0) (t % 32) h2
   rw [Array.getElem?_eq_getElem (by rw [bytesA_size]; exact h2)] at this
   exact Option.some.inj this
  have h4 : (default : Hs).f (t % 32) = 0 := Hs.default_f _ h2
  simp only [Array.toList_map, Array.toList_range, List.getElem?_map, List.getElem?_range ht, Option.map_some, h3, List.getElem_replicate, h4]
 ·rw [List.getElem?_eq_none (by simp; omega), List.getElem?_eq_none (by rw [flatH_len]; simp; omega)]

/-- copy of hashes over a whole block. -/
theorem run_copyH (w : World) (g cap : Nat) (v : Value) (D : List Hs) (ty : TypeId) (cur : Array Value) (hg : Blk w g 36 cur) (hs : cur.size = D.length * 32) (hr : HRow w v D) :
  (Builtin.copy_ #[37, 37] ty #[.slice (some ⟨g, 0, none⟩) D.length cap, v]).run Try.prog w = .ok (goInt D.length) (w.setRow g (flatH D).toArray) := by
 have hst := run_storeCells_at Try.prog g 0 36 (flatH D) 0 cur w hg (by rw [flatH_len]; omega) (flatH_one D)
 have hcur : (cur.toList.take (0 + 0) ++ flatH D ++ cur.toList.drop (0 + 0 + (flatH D).length)).toArray = (flatH D).toArray := by
  rw [flatH_len, List.drop_of_length_le (by rw [Array.length_toList]; omega)]; simp
 rw [hcur] at hst
 obtain ⟨i, hi, hsz⟩ := Option.map_eq_some_iff.1 Try.size36
 rcases hr with ⟨a, c, rfl, rfl, hac⟩ | ⟨b, off, cap2, rfl, _, hc⟩
 ·rw [flatH_nil] at hst
  rw [flatH_nil]
  cases a with
  | none => simp [Builtin.copy_, run_underlying Try.underlying37, Builtin.lenOf, Builtin.firstCells, sizeOf, typeInfo, hi, hst]
  | some ad => simp [Builtin.copy_, run_underlying Try.underlying37, Builtin.lenOf, Builtin.firstCells, sizeOf, typeInfo, hi, loadCells, loadCellsFrom, hst]
 ·have hl := run_loadCells_list (P := Try.prog) w ⟨b, off, none⟩ (flatH D) (fun j v hv => by rw [Addr.add_mid]; exact hc j v hv)
  rw [flatH_len] at hl
  simp [Builtin.copy_, run_underlying Try.underlying37, Builtin.lenOf, Builtin.firstCells, sizeOf, typeInfo, hi, hsz, hl, hst]

theorem wpList_copyH {ops : Array Oper} {rest : List Oper} {o : Oper} {a : Act} {w : World} {Q : Exit → Act → World → Prop} (hgd : o.guard = none) (d s : Operand)
  (ho : o.op = .call { callee := .builtin .copy, args := #[d, s], argTypes := #[37, 37] }) (g cap : Nat) (v : Value) (D : List Hs) (cur : Array Value)
  (hd : a.eval d = .slice (some ⟨g, 0, none⟩) D.length cap) (hs : a.eval s = v) (hg : Blk w g 36 cur) (hsz : cur.size = D.length * 32) (hr : HRow w v D)
  (h : wpList Try.prog ops Q rest (a.put o.dst (goInt D.length)) (w.setRow g (flatH D).toArray)) : wpList Try.prog ops Q (o :: rest) a w := by
 refine wpList_plain hgd fun K hK => ?_
 have hrun := run_copyH w g cap v D o.type cur hg hsz hr
 unfold Oper.wp
 simp only [execOp, ho, resolve, invoke, builtin, List.map_toArray, List.map_cons, List.map_nil, hd, hs, Sem.run_bind, Sem.run_pure, hrun, Result.andThen_ok]
 exact hK _ _ h

theorem run_makeH (n : Nat) (hn : n ≤ 4398046511104) (w : World) : (Instr.makeSlice 37 (.int .i64 (n : Int)) (.int .i64 (n : Int))).run Try.prog w = .ok (.slice (some ⟨w.heap.size, 0, none⟩) n n) (w.alloc (.cells (madeCells (bytesA 32 fun _ => 0) (n * 32)) 36)) := by
 obtain ⟨i, hi, hzz⟩ := Option.map_eq_some_iff.1 Try.info36
 simp only [Prod.mk.injEq] at hzz
 obtain ⟨hz, hs, hb⟩ := hzz
 have hr := run_make (P := Try.prog) w 37 36 i _ Try.underlying37 hi hz .i64 .i64 (n : Int) (n : Int) (by omega) (by omega) (by rw [hb]; omega) (by omega)
 simp only [Int.toNat_natCast, hs, Value.cells] at hr
 exact hr
theorem wpList_makeH {ops : Array Oper} {rest : List Oper} {o : Oper} {a : Act} {w : World} {Q : Exit → Act → World → Prop} (hgd : o.guard = none) (x y : Operand) (ho : o.op = .makeSlice 37 x y) (n : Nat) (hn : n ≤ 4398046511104)
  (hx : a.eval x = .int .i64 (n : Int)) (hy : a.eval y = .int .i64 (n : Int))
  (h : wpList Try.prog ops Q rest (a.put o.dst (.slice (some ⟨w.heap.size, 0, none⟩) n n)) (w.alloc (.cells (madeCells (bytesA 32 fun _ => 0) (n * 32)) 36))) : wpList Try.prog ops Q (o :: rest) a w := by
 refine wpList_plain hgd fun K hK => ?_
 unfold Oper.wp
 simp only [execOp, ho, hx, hy, Sem.run_bind, run_makeH n hn w, Result.andThen_ok]
 exact hK _ _ h

theorem setH_flat (E : List Hs) (k : Nat) (x : Hs) (hk : k < E.length) : ((flatH E).toArray.toList.take (k * 32) ++ (encH x) ++ (flatH E).toArray.toList.drop (k * 32 + 32)).toArray = (flatH (E.set k x)).toArray := by
 show ((flatH E).take (k * 32) ++ _ ++ (flatH E).drop _).toArray = _
 rw [flatH_take, show k * 32 + 32 = (k + 1) * 32 by omega, flatH_drop]
 have : E.set k x = E.take k ++ [x] ++ E.drop (k + 1) := by
  rw [List.set_eq_take_append_cons_drop, if_pos hk]; simp
 rw [this, flatH_app, flatH_app]
 simp [flatH]
/-- A hash into its place of a block. -/
theorem wp_store_part {P : Program} {Q : Exit → Act → World → Prop} {o : Oper} {a : Act} {w : World} {K : Act → World → Prop} (ty : TypeId) (x y : Operand) (ho : o.op = .store ty x y)
  (g off : Nat) (cells : Array Value) (hx : a.eval x = .pointer (some ⟨g, off, none⟩)) (hy : a.eval y = .agg cells)
  (t : TypeId) (cur : Array Value) (hg : w.heap[g]? = some (.cells cur t (0, 0))) (hi : (P.info? ty).map (·.size) = some cells.size) (hfit : off + cells.size ≤ cur.size)
  (h1 : cells.all (·.oneCell') = true)
  (h : K (a.put o.dst undef) (w.setRow g (cur.toList.take off ++ cells.toList ++ cur.toList.drop (off + cells.size)).toArray)) : o.wp P a w K Q := by
 have hst := run_storeCells_at P g off t cells.toList 0 cur w hg (by simpa using hfit) (fun v hv => (Array.all_eq_true_iff_forall_mem.1 h1) v (by simpa using hv))
 have hrun : (storeVar ty ⟨g, off, none⟩ (.agg cells)).run P w = .ok () (w.setRow g (cur.toList.take off ++ cells.toList ++ cur.toList.drop (off + cells.size)).toArray) := by
  cases hq : P.info? ty with
  | none => simp [hq] at hi
  | some i =>
   have hs : cells.size = i.size := by simp [hq] at hi; omega
   simp only [Nat.add_zero, Array.length_toList] at hst
   simp [storeVar, sizeOf, typeInfo, hq, Value.cells, hs, hst]
 unfold Oper.wp execOp
 simp only [ho, hx, hy, Instr.storeAt, Instr.sureAddr, Sem.run_bind, Sem.run_pure, Result.andThen_ok, hrun]
 exact h
theorem wpList_storeH {ops : Array Oper} {rest : List Oper} {o : Oper} {a : Act} {w : World} {Q : Exit → Act → World → Prop} (hgd : o.guard = none) (x y : Operand) (ho : o.op = .store 36 x y)
  (g k : Nat) (hh : Hs) (E : List Hs) (hx : a.eval x = .pointer (some ⟨g, k * 32, none⟩)) (hy : a.eval y = .agg (encH hh).toArray) (hg : Blk w g 36 (flatH E).toArray) (hk : k < E.length)
  (h : wpList Try.prog ops Q rest (a.put o.dst undef) (w.setRow g (flatH (E.set k hh)).toArray)) : wpList Try.prog ops Q (o :: rest) a w := by
 have e1 : (Try.prog.info? 36).map (·.size) = some (encH hh).toArray.size := by rw [List.size_toArray, encH_len]; exact Try.size36
 have e2 : k * 32 + (encH hh).toArray.size ≤ (flatH E).toArray.size := by rw [flatH_arr_size, List.size_toArray, encH_len]; omega
 have e3 : (encH hh).toArray.all (·.oneCell') = true := all_oneCell_toArray (encH_one hh)
 have e4 : ((flatH E).toArray.toList.take (k * 32) ++ (encH hh).toArray.toList ++ (flatH E).toArray.toList.drop (k * 32 + (encH hh).toArray.size)).toArray = (flatH (E.set k hh)).toArray := by
  rw [← setH_flat E k hh hk, List.size_toArray, encH_len]
 generalize (encH hh).toArray = C at *
 generalize (flatH E).toArray = F at *
 generalize (flatH (E.set k hh)).toArray = G at *
 refine wpList_plain hgd fun K hK => ?_
 refine wp_store_part 36 x y ho g (k * 32) C hx hy 36 F hg e1 e2 e3 ?_
 rw [e4]
 exact hK _ _ h
theorem rangeAt_grown {w w' : World} {b off : Nat} {cs : List Value} {S : Nat → Prop} (h : w.rangeAt b off cs) (hg : Grown w w' S) (hs : ¬ S b) : w'.rangeAt b off cs := fun j v hv => by
 have h1 := h j v hv
 rw [World.cell?_of_block (hg.block b (cell_lt h1) hs)]; exact h1
theorem HRow.grown {w w' : World} {v : Value} {L : List Hs} {S : Nat → Prop} (h : HRow w v L) (hg : Grown w w' S) (hs : ∀ b o n c, v = .slice (some ⟨b, o, none⟩) n c → ¬ S b) : HRow w' v L := by
 rcases h with h | ⟨b, off, cap, h1, h2, h3⟩
 ·exact .inl h
 ·exact .inr ⟨b, off, cap, h1, h2, rangeAt_grown h3 hg (hs _ _ _ _ h1)⟩
/-- Append of hashes, in a region that draws. -/
theorem wp_appH {o : Oper} {a : Act} {w : World} {K : Act → World → Prop} {Q : Exit → Act → World → Prop} (s x : Operand)
  (ho : o.op = .call { callee := .builtin .append, args := #[s, x], argTypes := #[37, 37] }) (base : Nat) (v vx : Value) (L M : List Hs)
  (hs : a.eval s = v) (hx : a.eval x = vx) (hown : w.ownsRow base 36 32 v L.length (flatH L)) (hrow : HRow w vx M) (hb : L.length + M.length ≤ 4398046511104) (hbase : base ≤ w.heap.size)
  (h : ∀ v' w', w'.ownsRow base 36 32 v' (L ++ M).length (flatH (L ++ M)) → w.grownBy w' v.ownBlock → K (a.put o.dst v') w') : o.wp Try.prog a w K Q := by
 obtain ⟨i, hi, hzz⟩ := Option.map_eq_some_iff.1 Try.info36
 simp only [Prod.mk.injEq] at hzz
 obtain ⟨hz, hsz, hby⟩ := hzz
 have hzs : (Value.agg (bytesA 32 fun _ => 0)).cells.size = 32 := by show (bytesA 32 fun _ => 0).size = 32; exact bytesA_size _ _
 rw [flatH_app, List.length_append] at h
 rcases hrow with ⟨ad, c, rfl, rfl, hac⟩ | ⟨b, off, cap, rfl, hcap, hc⟩
 ·cases ad with
  | none =>
   obtain rfl := hac rfl
   have hrun := run_append_owned_none (P := Try.prog) (w := w) base 37 o.type 36 i 32 Try.underlying37 hi v L.length _ hown
   unfold Oper.wp execOp
   simp only [ho, resolve, invoke, builtin, Sem.run_bind, Sem.run_pure, Result.andThen_ok, List.map_toArray, List.map_cons, List.map_nil, hs, hx, hrun]
   refine h v w ?_ (World.grownBy.refl w _)
   simpa [flatH_nil] using hown
  | some ad =>
   refine wp_append_own w s x 37 ho base 36 i _ 32 32 Try.underlying37 hi hz hsz hby hzs (by omega) v L.length _ hs hown ad 0 c [] hx rfl (fun j u hu => by simp at hu) (fun u hu => by simp at hu) (by unfold maxLen; simp at hb; omega) (by simp at hb; omega) hbase ?_
   intro v' w' h1 h2 _
   exact h v' w' h1 h2
 ·refine wp_append_own w s x 37 ho base 36 i _ 32 32 Try.underlying37 hi hz hsz hby hzs (by omega) v L.length _ hs hown ⟨b, off, none⟩ M.length cap (flatH M) hx (flatH_len M)
   (fun j u hu => by rw [Addr.add_mid]; exact hc j u hu) (flatH_one M) (by unfold maxLen; omega) (by omega) hbase ?_
  intro v' w' h1 h2 _
  exact h v' w' h1 h2
theorem one_row (z : Hs) (w : World) : HRow (w.alloc (.cells (encH z).toArray 36)) (.slice (some ⟨w.heap.size, 0, none⟩) 1 1) [z] := HRow.mk rfl (Nat.le_refl _) fun j v hv => by
 rw [Nat.zero_add, (Blk.new w 36 _).cell]; simpa [flatH] using hv

end Go.Proofs.Ytogmdfhicbmplaa
namespace Go.Proofs.Ytogmdfhicbmplaa

namespace Hs
end Hs

/-- The first place at which two rows part, from i on, n places at most. -/
def cmpG (a b : Nat → Int) : Nat → Nat → Int
 | 0, _ => 0
 | n + 1, i => if a i < b i then -1 else if b i < a i then 1 else cmpG a b n (i + 1)

theorem cmpG_neg (a b : Nat → Int) : ∀ n i, cmpG a b n i < 0 ↔ ∃ j, i ≤ j ∧ j < i + n ∧ (∀ k, i ≤ k → k < j → a k = b k) ∧ a j < b j
 | 0, i => by simp [cmpG]; omega
 | n + 1, i => by
  unfold cmpG
  by_cases h1 : a i < b i
  ·simp only [h1, if_true]
   exact ⟨fun _ => ⟨i, by omega, by omega, fun k _ _ => by omega, h1⟩, fun _ => by omega⟩
  ·by_cases h2 : b i < a i
   ·simp only [h1, h2, if_false, if_true]
    refine ⟨fun h => by omega, ?_⟩
    rintro ⟨j, hj, _, he, hl⟩
    rcases Nat.lt_or_eq_of_le hj with h | h
    ·have := he i (by omega) h; omega
    ·subst h; omega
   ·simp only [h1, h2, if_false]
    rw [cmpG_neg a b n (i + 1)]
    constructor
    ·rintro ⟨j, hj, hn, he, hl⟩
     refine ⟨j, by omega, by omega, fun k hk hkj => ?_, hl⟩
     rcases Nat.lt_or_eq_of_le hk with h | h
     ·exact he k (by omega) hkj
     ·subst h; omega
    ·rintro ⟨j, hj, hn, he, hl⟩
     rcases Nat.lt_or_eq_of_le hj with h | h
     ·exact ⟨j, by omega, by omega, fun k hk hkj => he k (by omega) hkj, hl⟩
     ·subst h; omega
theorem cmpG_swap (a b : Nat → Int) : ∀ n i, cmpG b a n i = - cmpG a b n i
 | 0, i => rfl
 | n + 1, i => by
  unfold cmpG
  by_cases h1 : a i < b i
  ·have : ¬ b i < a i := by omega
   simp [h1, this]
  ·by_cases h2 : b i < a i
   ·simp [h1, h2]
   ·simp [h1, h2, cmpG_swap a b n (i + 1)]
theorem cmpG_zero (a b : Nat → Int) : ∀ n i, cmpG a b n i = 0 ↔ ∀ k, i ≤ k → k < i + n → a k = b k
 | 0, i => by simp [cmpG]; omega
 | n + 1, i => by
  unfold cmpG
  by_cases h1 : a i < b i
  ·simp only [h1, if_true]
   exact ⟨fun h => by omega, fun h => by have := h i (by omega) (by omega); omega⟩
  ·by_cases h2 : b i < a i
   ·simp only [h1, h2, if_false, if_true]
    exact ⟨fun h => by omega, fun h => by have := h i (by omega) (by omega); omega⟩
   ·simp only [h1, h2, if_false]
    rw [cmpG_zero a b n (i + 1)]
    constructor
    ·intro h k hk hn
     rcases Nat.lt_or_eq_of_le hk with h' | h'
     ·exact h k (by omega) (by omega)
     ·subst h'; omega
    ·intro h k hk hn
     exact h k (by omega) (by omega)
theorem cmpG_eq_skip (a b : Nat → Int) : ∀ i n, (∀ k, k < i → a k = b k) → i ≤ n → cmpG a b n 0 = cmpG a b (n - i) i := by
 intro i
 induction i with
 | zero => intro n _ _; rfl
 | succ i ih =>
  intro n h hn
  rw [ih n (fun k hk => h k (by omega)) (by omega)]
  obtain ⟨m, hm⟩ : ∃ m, n - i = m + 1 := ⟨n - i - 1, by omega⟩
  rw [hm, show n - (i + 1) = m by omega]
  have := h i (by omega)
  rw [cmpG, if_neg (by omega), if_neg (by omega)]
theorem cmpG_at (a b : Nat → Int) (i n : Nat) (h : ∀ k, k < i → a k = b k) (hi : i < n) (hne : a i ≠ b i) : cmpG a b n 0 = if a i < b i then -1 else 1 := by
 rw [cmpG_eq_skip a b i n h (by omega)]
 obtain ⟨m, hm⟩ : ∃ m, n - i = m + 1 := ⟨n - i - 1, by omega⟩
 rw [hm, cmpG]
 by_cases h1 : a i < b i
 ·rw [if_pos h1, if_pos h1]
 ·rw [if_neg h1, if_neg h1, if_pos (by omega)]

/-- Which of two hashes stands ahead. -/
def cf (x y : Hs) : Int := cmpG x.f y.f 32 0
/-- One stands ahead of another. -/
def Lt (x y : Hs) : Prop := cf x y < 0
theorem cf_swap (x y : Hs) : cf y x = - cf x y := cmpG_swap _ _ _ _
theorem cf_zero (x y : Hs) : cf x y = 0 ↔ x = y := by
 unfold cf
 rw [cmpG_zero]
 constructor
 ·intro h; exact Hs.ext' fun i hi => h i (by omega) (by omega)
 ·rintro rfl; intros; rfl
theorem Lt.trans {x y z : Hs} (h1 : Lt x y) (h2 : Lt y z) : Lt x z := by
 unfold Lt cf at *
 rw [cmpG_neg] at *
 obtain ⟨i, _, hi, hie, hil⟩ := h1
 obtain ⟨j, _, hj, hje, hjl⟩ := h2
 rcases Nat.lt_trichotomy i j with h | h | h
 ·exact ⟨i, by omega, hi, fun k hk hki => (hie k hk hki).trans (hje k hk (by omega)), by rw [← hje i (by omega) h]; exact hil⟩
 ·subst h; exact ⟨i, by omega, hi, fun k hk hki => (hie k hk hki).trans (hje k hk hki), by omega⟩
 ·exact ⟨j, by omega, hj, fun k hk hkj => (hie k hk (by omega)).trans (hje k hk hkj), by rw [hie j (by omega) h]; exact hjl⟩
theorem Lt.irrefl (x : Hs) : ¬ Lt x x := by
 have := (cf_zero x x).2 rfl
 unfold Lt; omega
theorem Lt.tri (x y : Hs) : Lt x y ∨ x = y ∨ Lt y x := by
 have h1 := cf_swap x y
 have h2 := cf_zero x y
 unfold Lt
 by_cases h : cf x y = 0
 ·exact .inr (.inl (h2.1 h))
 ·rcases Int.lt_or_gt_of_ne h with h | h
  ·exact .inl h
  ·exact .inr (.inr (by omega))
theorem Lt.ne {x y : Hs} (h : Lt x y) : x ≠ y := fun e => Lt.irrefl x (e ▸ h)
theorem Lt.asymm {x y : Hs} (h : Lt x y) : ¬ Lt y x := fun e => Lt.irrefl x (h.trans e)
theorem cf_pos (x y : Hs) : 0 < cf x y ↔ Lt y x := by unfold Lt; rw [cf_swap x y]; omega

/-- Rising lists of the same hashes are one. -/
theorem rising_unique : ∀ (a b : List Hs), a.Pairwise Lt → b.Pairwise Lt → (∀ x, x ∈ a ↔ x ∈ b) → a = b
 | [], [], _, _, _ => rfl
 | [], y :: b, _, _, h => by have := (h y).2 (by simp); simp at this
 | x :: a, [], _, _, h => by have := (h x).1 (by simp); simp at this
 | x :: a, y :: b, h1, h2, h => by
  rw [List.pairwise_cons] at h1 h2
  have e : x = y := by
   have hx := (h x).1 (by simp)
   have hy := (h y).2 (by simp)
   rcases List.mem_cons.1 hx with rfl | hx
   ·rfl
   ·rcases List.mem_cons.1 hy with rfl | hy
    ·rfl
    ·exact absurd (h1.1 y hy) (h2.1 x hx).asymm
  subst e
  rw [rising_unique a b h1.2 h2.2 fun z => ?_]
  constructor
  ·intro hz
   rcases List.mem_cons.1 ((h z).1 (by simp [hz])) with rfl | h'
   ·exact absurd (h1.1 _ hz) (Lt.irrefl _)
   ·exact h'
  ·intro hz
   rcases List.mem_cons.1 ((h z).2 (by simp [hz])) with rfl | h'
   ·exact absurd (h2.1 _ hz) (Lt.irrefl _)
   ·exact h'

/-- Each of a row once, where equals stand together. -/
def once : List Hs → List Hs
 | [] => []
 | [x] => [x]
 | x :: y :: r => if x = y then once (y :: r) else x :: once (y :: r)
theorem once_mem : ∀ (l : List Hs) (z : Hs), z ∈ once l ↔ z ∈ l
 | [], z => by simp [once]
 | [x], z => by simp [once]
 | x :: y :: r, z => by
  have ih := once_mem (y :: r) z
  unfold once
  by_cases h : x = y
  ·subst h; rw [if_pos rfl, ih]; simp
  ·rw [if_neg h]; simp only [List.mem_cons] at ih ⊢; rw [ih]
theorem once_rising : ∀ (l : List Hs), l.Pairwise (fun x y => ¬ Lt y x) → (once l).Pairwise Lt
 | [], _ => by simp [once]
 | [x], _ => by simp [once]
 | x :: y :: r, h => by
  rw [List.pairwise_cons] at h
  have ih := once_rising (y :: r) h.2
  unfold once
  by_cases e : x = y
  ·rw [if_pos e]; exact ih
  ·rw [if_neg e, List.pairwise_cons]
   refine ⟨fun z hz => ?_, ih⟩
   rw [once_mem] at hz
   rcases List.mem_cons.1 hz with rfl | hz'
   ·rcases Lt.tri x z with h1 | h1 | h1
    ·exact h1
    ·exact absurd h1 e
    ·exact absurd h1 (h.1 z (by simp))
   ·have h2 := (List.pairwise_cons.1 h.2).1 z hz'
    have h3 := h.1 y (by simp)
    have hxy : Lt x y := by
     rcases Lt.tri x y with h1 | h1 | h1
     ·exact h1
     ·exact absurd h1 e
     ·exact absurd h1 h3
    rcases Lt.tri y z with h1 | h1 | h1
    ·exact hxy.trans h1
    ·subst h1; exact hxy
    ·exact absurd h1 h2

/-- Two rising lists, one behind the other's places. -/
def mrg : List Hs → List Hs → List Hs
 | [], b => b
 | x :: a, [] => x :: a
 | x :: a, y :: b => if cf x y < 0 then x :: mrg a (y :: b) else if cf x y = 0 then x :: mrg a b else y :: mrg (x :: a) b
 termination_by a b => a.length + b.length
theorem mrg_nil (a : List Hs) : mrg a [] = a := by cases a <;> simp [mrg]
theorem mrg_mem (a b : List Hs) (z : Hs) : z ∈ mrg a b ↔ z ∈ a ∨ z ∈ b := by
 fun_induction mrg a b with
 | case1 b => simp
 | case2 x a => simp
 | case3 x a y b h ih => simp only [List.mem_cons, ih]; simp only [or_assoc]
 | case4 x a y b h1 h2 ih =>
  have := (cf_zero x y).1 h2
  subst this
  simp only [List.mem_cons, ih]
  constructor
  ·rintro (h | h | h)
   ·exact .inl (.inl h)
   ·exact .inl (.inr h)
   ·exact .inr (.inr h)
  ·rintro ((h | h) | (h | h))
   ·exact .inl h
   ·exact .inr (.inl h)
   ·exact .inl h
   ·exact .inr (.inr h)
 | case5 x a y b h1 h2 ih =>
  simp only [List.mem_cons, ih]
  constructor
  ·rintro (h | (h | h) | h)
   ·exact .inr (.inl h)
   ·exact .inl (.inl h)
   ·exact .inl (.inr h)
   ·exact .inr (.inr h)
  ·rintro ((h | h) | (h | h))
   ·exact .inr (.inl (.inl h))
   ·exact .inr (.inl (.inr h))
   ·exact .inl h
   ·exact .inr (.inr h)
theorem mrg_rising (a b : List Hs) (ha : a.Pairwise Lt) (hb : b.Pairwise Lt) : (mrg a b).Pairwise Lt := by
 fun_induction mrg a b with
 | case1 b => exact hb
 | case2 x a => exact ha
 | case3 x a y b h ih =>
  rw [List.pairwise_cons] at ha ⊢
  refine ⟨fun z hz => ?_, ih ha.2 hb⟩
  rw [mrg_mem] at hz
  rcases hz with hz | hz
  ·exact ha.1 z hz
  ·rcases List.mem_cons.1 hz with rfl | hz
   ·exact h
   ·exact Lt.trans h ((List.pairwise_cons.1 hb).1 z hz)
 | case4 x a y b h1 h2 ih =>
  have := (cf_zero x y).1 h2
  subst this
  rw [List.pairwise_cons] at ha hb ⊢
  refine ⟨fun z hz => ?_, ih ha.2 hb.2⟩
  rw [mrg_mem] at hz
  rcases hz with hz | hz
  ·exact ha.1 z hz
  ·exact hb.1 z hz
 | case5 x a y b h1 h2 ih =>
  have hyx : Lt y x := (cf_pos x y).1 (by omega)
  rw [List.pairwise_cons] at hb ⊢
  refine ⟨fun z hz => ?_, ih ha hb.2⟩
  rw [mrg_mem] at hz
  rcases hz with hz | hz
  ·rcases List.mem_cons.1 hz with rfl | hz
   ·exact hyx
   ·exact hyx.trans ((List.pairwise_cons.1 ha).1 z hz)
  ·exact hb.1 z hz
theorem mrg_length (a b : List Hs) : (mrg a b).length ≤ a.length + b.length := by
 fun_induction mrg a b with
 | case1 b => simp
 | case2 x a => simp
 | case3 x a y b h ih => simp only [List.length_cons] at ih ⊢; omega
 | case4 x a y b h1 h2 ih => simp only [List.length_cons] at ih ⊢; omega
 | case5 x a y b h1 h2 ih => simp only [List.length_cons] at ih ⊢; omega
end Go.Proofs.Ytogmdfhicbmplaa
namespace Go.Proofs.Ytogmdfhicbmplaa
open Go.RowKit Go.Sort

theorem grown_below (w : World) (q : Nat) (os : Array Obj) : Below w.heap.size w (grow (w.drewN q) os) where
 os := rfl
 tape := rfl
 output := rfl
 size := by simp [grow]
 block i hi := by simp [grow, Array.getElem?_append, hi]

theorem drewN_grown {w w0 : World} (h : ∃ os, w0 = grow w os) (k : Nat) : ∃ q os, w0.drewN k = grow (w.drewN q) os := by
 obtain ⟨os, rfl⟩ := h
 exact ⟨k, os, rfl⟩

set_option maxRecDepth 8000 in
set_option maxHeartbeats 400000 in
/-- cmp.Compare of two bytes that differ. -/
theorem cmpByte_any (a b : Int) (w : World) : Calls Try.prog 94 #[.int .u8 a, .int .u8 b] w fun e w' => e = .returned (.int .i64 (if a < b then -1 else if b < a then 1 else 0)) ∧ ∃ q, w' = w.drewN q := by
 have h52 : ∀ (z : Int) (w : World), Calls Try.prog 98 #[.int .u8 z] w fun e w' => e = .returned (.bool false) ∧ ∃ q, w' = w.drewN q := by
  intro z w
  go_enter Try.func98, Try.ntmps98
  go_wp2
  first
   | (go_quiet (fail); go_wp2; go_ret; exact ⟨rfl, nq, rfl⟩)
   | (go_ret; exact ⟨rfl, 0, rfl⟩)
 have walk : ∀ r : Int, (a < b ∧ r = -1) ∨ (¬ a < b ∧ b < a ∧ r = 1) ∨ (¬ a < b ∧ ¬ b < a ∧ r = 0) → Calls Try.prog 94 #[.int .u8 a, .int .u8 b] w fun e w' => e = .returned (.int .i64 r) ∧ ∃ q, w' = w.drewN q := by
  intro r hr
  have HR : Keep ((a < b ∧ r = -1) ∨ (¬ a < b ∧ b < a ∧ r = 1) ∨ (¬ a < b ∧ ¬ b < a ∧ r = 0)) := ⟨hr⟩
  clear hr
  go_enter Try.func94, Try.ntmps94
  go_wp2_with fail
  refine (h52 a w).mono ?_
  rintro e w1 ⟨rfl, q1, rfl⟩
  go_wp2_with fail
  refine (h52 b _).mono ?_
  rintro e w2 ⟨rfl, q2, rfl⟩
  rw [World.drewN_drewN]
  rcases HR.out with ⟨h1, rfl⟩ | ⟨h1, h2, rfl⟩ | ⟨h1, h2, rfl⟩
  ·go_wp2
   go_ret
   exact ⟨rfl, _, rfl⟩
  ·go_wp2
   go_ret
   exact ⟨rfl, _, rfl⟩
  ·go_wp2
   go_ret
   exact ⟨rfl, _, rfl⟩
 refine walk _ ?_
 by_cases h1 : a < b
 ·exact .inl ⟨h1, if_pos h1⟩
 ·by_cases h2 : b < a
  ·exact .inr (.inl ⟨h1, h2, by rw [if_neg h1, if_pos h2]⟩)
  ·exact .inr (.inr ⟨h1, h2, by rw [if_neg h1, if_neg h2]⟩)


set_option maxRecDepth 8000 in
set_option maxHeartbeats 400000 in
set_option maxRecDepth 20000 in
theorem compare_walk (A B : Array Value) (x y : Nat → Int) (E : Bool) (w : World) (hA : ∀ t, t < 32 → A[t]? = some (.int .u8 (x t))) (hB : ∀ t, t < 32 → B[t]? = some (.int .u8 (y t))) (hAs : A.size = 32) (hBs : B.size = 32)
  (heq : ∀ w, (binOp .eql 36 (.agg A) (.agg B)).run Try.prog w = .ok (.bool E) w) (hE1 : E = true → cmpG x y 32 0 = 0) (hE2 : E = false → ∃ t, t < 32 ∧ x t ≠ y t) :
  Calls Try.prog 86 #[.agg A, .agg B] w fun e w' => e = .returned (.int .i64 (cmpG x y 32 0)) ∧ ∃ q os, w' = grow (w.drewN q) os := by
 have HA : Keep (∀ t, t < 32 → A[t]? = some (.int .u8 (x t))) := ⟨hA⟩
 have HB : Keep (∀ t, t < 32 → B[t]? = some (.int .u8 (y t))) := ⟨hB⟩
 obtain ⟨r, hr⟩ : ∃ r, Keep (r = cmpG x y 32 0) := ⟨_, ⟨rfl⟩⟩
 rw [← hr.out] at hE1 ⊢
 have H1 : Keep (E = true → r = 0) := ⟨hE1⟩
 have H2 : Keep (E = false → ∃ t, t < 32 ∧ x t ≠ y t) := ⟨hE2⟩
 have hi1 : (Try.prog.info? 36).map (·.size) = some A.size := by rw [hAs]; exact Try.size36
 have hi2 : (Try.prog.info? 36).map (·.size) = some B.size := by rw [hBs]; exact Try.size36
 clear hE1 hE2 hA hB
 have hA1 : (w.alloc (.cells A 36)).heap.size = w.heap.size + 1 := by simp
 have hX : Blk ((w.alloc (.cells A 36)).alloc (.cells B 36)) w.heap.size 36 A := (Blk.new w 36 _).alloc _
 have hY : Blk ((w.alloc (.cells A 36)).alloc (.cells B 36)) (w.heap.size + 1) 36 B := by rw [← hA1]; exact Blk.new _ 36 _
 have hG : (w.alloc (.cells A 36)).alloc (.cells B 36) = grow (w.drewN 0) #[.cells A 36, .cells B 36] := by
  rw [alloc_eq_grow, alloc_eq_grow, grow_grow]; rfl
 have HG : Keep (∃ os, (w.alloc (.cells A 36)).alloc (.cells B 36) = grow w os) := ⟨_, hG⟩
 clear hA1 hG
 go_enter Try.func86, Try.ntmps86
 go_wp2_with (first | (refine wpList_boxA rfl 36 (.tmp 0) rfl A rfl ?_; refine wpList_boxA rfl 36 (.tmp 1) rfl B rfl ?_) | (refine wpList_load_row rfl 36 (.tmp 2) rfl w.heap.size rfl 36 A (0, 0) (.array 32 5) hX Try.underlying36 rfl hi1 ?_; refine wpList_load_row rfl 36 (.tmp 3) rfl (w.heap.size + 1) rfl 36 B (0, 0) (.array 32 5) hY Try.underlying36 rfl hi2 ?_))
 ·go_ret
  have := H1.out (by assumption)
  obtain ⟨os, hos⟩ := HG.out
  exact ⟨by rw [this]; rfl, 0, os, by rw [hos]; rfl⟩
 ·have hE : E = false := by first | assumption | (cases E <;> simp_all)
  obtain ⟨d, hd, hne⟩ := H2.out hE
  have HN : Keep (x d ≠ y d) := ⟨hne⟩
  clear hne
  generalize (w.alloc (.cells A 36)).alloc (.cells B 36) = w0 at *
  generalize w.heap.size = p at *
  go_loopw [5] (fun i wr => ∃ t n : Nat, t ≤ d ∧ i = .int .i64 (t : Int) ∧ (∀ k, k < t → x k = y k) ∧ wr = w0.drewN n) (fun i _ => d - (intOf i).toNat)
  case atStart => exact ⟨0, 0, by omega, rfl, fun k hk => by omega, by rw [World.drewN_zero]⟩
  case round =>
   obtain ⟨t, n, ht, rfl, hke, rfl⟩ := hrel
   have HK : Keep (∀ k, k < t → x k = y k) := ⟨hke⟩
   clear hke
   have c1 : (w0.drewN n).cell? ⟨p, t, none⟩ = some (.int .u8 (x t)) := by rw [World.cell?_drewN, hX.cell]; exact HA.out t (by omega)
   have c2 : (w0.drewN n).cell? ⟨p + 1, t, none⟩ = some (.int .u8 (y t)) := by rw [World.cell?_drewN, hY.cell]; exact HB.out t (by omega)
   obtain ⟨a, ha⟩ : ∃ a, Keep (x t = a) := ⟨_, ⟨rfl⟩⟩
   obtain ⟨b, hb⟩ : ∃ b, Keep (y t = b) := ⟨_, ⟨rfl⟩⟩
   rw [ha.out] at c1
   rw [hb.out] at c2
   obtain ⟨wn, hwn⟩ : ∃ wn, Keep (w0.drewN n = wn) := ⟨_, ⟨rfl⟩⟩
   rw [hwn.out] at c1 c2 ⊢
   have ht32 : (t : Int) < 32 := by omega
   go_wp2
   go_quiet (fail)
   by_cases hab : a = b
   ·have htd : t ≠ d := fun e => by subst e; exact HN.out (by rw [ha.out, hb.out, hab])
    go_wp2
    go_roundw
    case rel => exact ⟨t + 1, n + nq, by omega, by go_num, fun k hk => by
     rcases Nat.lt_or_eq_of_le (Nat.le_of_lt_succ hk) with h | h
     ·exact HK.out k h
     ·subst h; rw [ha.out, hb.out, hab], by rw [← hwn.out, World.drewN_drewN]⟩
    case measure => simp [intOf]; omega
   ·have hra : Keep (r = (if a < b then -1 else if b < a then 1 else 0)) := ⟨by
     rw [hr.out, cmpG_at x y t 32 HK.out (by omega) (by rw [ha.out, hb.out]; exact hab), ha.out, hb.out]
     by_cases h1 : a < b
     ·rw [if_pos h1, if_pos h1]
     ·rw [if_neg h1, if_neg h1, if_pos (by omega)]⟩
    have hcb : ∀ w, Calls Try.prog 94 #[.int .u8 a, .int .u8 b] w fun e w' => e = .returned (.int .i64 r) ∧ ∃ q, w' = w.drewN q := fun w => by rw [hra.out]; exact cmpByte_any a b w
    have d1 : (wn.drewN nq).cell? ⟨p, t, none⟩ = some (.int .u8 a) := by rw [World.cell?_drewN]; exact c1
    have d2 : (wn.drewN nq).cell? ⟨p + 1, t, none⟩ = some (.int .u8 b) := by rw [World.cell?_drewN]; exact c2
    obtain ⟨wm, hwm⟩ : ∃ wm, Keep (wn.drewN nq = wm) := ⟨_, ⟨rfl⟩⟩
    go_wp2
    rw [hwm.out] at d1 d2 ⊢
    go_quiet (first | (go_at_call 94; refine Calls.quiet_of (hcb _)))
    go_wp2
    go_ret
    refine ⟨rfl, ?_⟩
    rw [← hwm.out, ← hwn.out, World.drewN_drewN, World.drewN_drewN]
    exact drewN_grown HG.out _

/-- sha.Compare. -/
theorem compare_any (x y : Hs) (w : World) : Calls Try.prog 86 #[.agg (bytesA 32 x.f), .agg (bytesA 32 y.f)] w fun e w' => e = .returned (.int .i64 (cf x y)) ∧ ∃ q os, w' = grow (w.drewN q) os :=
 compare_walk (bytesA 32 x.f) (bytesA 32 y.f) x.f y.f (decide (x = y)) w (fun _ ht => bytesA_get _ _ _ ht) (fun _ ht => bytesA_get _ _ _ ht) (bytesA_size _ _) (bytesA_size _ _) (run_eqlH x y)
  (fun h => (cf_zero x y).2 (of_decide_eq_true h)) (fun h => Classical.byContradiction fun hc => of_decide_eq_false h (Hs.ext' fun i hi => Classical.byContradiction fun hn => hc ⟨i, hi, hn⟩))

set_option maxRecDepth 8000 in
set_option maxHeartbeats 400000 in
set_option maxRecDepth 20000 in
theorem refCompare_walk (A B : Array Value) (x y : Nat → Int) (w : World) (hA : ∀ t, t < 32 → A[t]? = some (.int .u8 (x t))) (hB : ∀ t, t < 32 → B[t]? = some (.int .u8 (y t))) :
  Calls Try.prog 57 #[.agg A, .agg B] w fun e w' => e = .returned (.int .i64 (cmpG x y 32 0)) ∧ ∃ q os, w' = grow (w.drewN q) os := by
 have HA : Keep (∀ t, t < 32 → A[t]? = some (.int .u8 (x t))) := ⟨hA⟩
 have HB : Keep (∀ t, t < 32 → B[t]? = some (.int .u8 (y t))) := ⟨hB⟩
 obtain ⟨r, hr⟩ : ∃ r, Keep (r = cmpG x y 32 0) := ⟨_, ⟨rfl⟩⟩
 rw [← hr.out]
 clear hA hB
 have hA1 : (w.alloc (.cells A 36)).heap.size = w.heap.size + 1 := by simp
 have hX : Blk ((w.alloc (.cells A 36)).alloc (.cells B 36)) w.heap.size 36 A := (Blk.new w 36 _).alloc _
 have hY : Blk ((w.alloc (.cells A 36)).alloc (.cells B 36)) (w.heap.size + 1) 36 B := by rw [← hA1]; exact Blk.new _ 36 _
 have hG : (w.alloc (.cells A 36)).alloc (.cells B 36) = grow (w.drewN 0) #[.cells A 36, .cells B 36] := by
  rw [alloc_eq_grow, alloc_eq_grow, grow_grow]; rfl
 have HG : Keep (∃ os, (w.alloc (.cells A 36)).alloc (.cells B 36) = grow w os) := ⟨_, hG⟩
 clear hA1 hG
 go_enter Try.func57, Try.ntmps57
 go_wp2_with (first | (refine wpList_boxA rfl 36 (.tmp 0) rfl A rfl ?_; refine wpList_boxA rfl 36 (.tmp 1) rfl B rfl ?_))
 generalize (w.alloc (.cells A 36)).alloc (.cells B 36) = w0 at *
 generalize w.heap.size = p at *
 go_loopw [5] (fun i wr => ∃ t n : Nat, t ≤ 32 ∧ i = .int .i64 (t : Int) ∧ (∀ k, k < t → x k = y k) ∧ wr = w0.drewN n) (fun i _ => 32 - (intOf i).toNat)
 case atStart => exact ⟨0, 0, by omega, rfl, fun k hk => by omega, by rw [World.drewN_zero]⟩
 case round =>
  obtain ⟨t, n, ht, rfl, hke, rfl⟩ := hrel
  have HK : Keep (∀ k, k < t → x k = y k) := ⟨hke⟩
  clear hke
  by_cases hlt : t < 32
  ·have c1 : (w0.drewN n).cell? ⟨p, t, none⟩ = some (.int .u8 (x t)) := by rw [World.cell?_drewN, hX.cell]; exact HA.out t (by omega)
   have c2 : (w0.drewN n).cell? ⟨p + 1, t, none⟩ = some (.int .u8 (y t)) := by rw [World.cell?_drewN, hY.cell]; exact HB.out t (by omega)
   obtain ⟨a, ha⟩ : ∃ a, Keep (x t = a) := ⟨_, ⟨rfl⟩⟩
   obtain ⟨b, hb⟩ : ∃ b, Keep (y t = b) := ⟨_, ⟨rfl⟩⟩
   rw [ha.out] at c1
   rw [hb.out] at c2
   obtain ⟨wn, hwn⟩ : ∃ wn, Keep (w0.drewN n = wn) := ⟨_, ⟨rfl⟩⟩
   rw [hwn.out] at c1 c2 ⊢
   have ht32 : (t : Int) < 32 := by omega
   go_wp2
   go_quiet (fail)
   have HR : Keep (a ≠ b → r = if a < b then -1 else 1) := ⟨fun h => by
    rw [hr.out, cmpG_at x y t 32 HK.out (by omega) (by rw [ha.out, hb.out]; exact h), ha.out, hb.out]⟩
   have d1 : (wn.drewN nq).cell? ⟨p, t, none⟩ = some (.int .u8 a) := by rw [World.cell?_drewN]; exact c1
   have d2 : (wn.drewN nq).cell? ⟨p + 1, t, none⟩ = some (.int .u8 b) := by rw [World.cell?_drewN]; exact c2
   obtain ⟨wm, hwm⟩ : ∃ wm, Keep (wn.drewN nq = wm) := ⟨_, ⟨rfl⟩⟩
   have HD : Keep (∃ k, wm = w0.drewN k) := ⟨_, by rw [← hwm.out, ← hwn.out, World.drewN_drewN]⟩
   rw [hwm.out] at d1 d2
   by_cases h1 : a < b
   ·go_wp2
    go_ret
    obtain ⟨os, hos⟩ := HG.out
    refine ⟨by rw [HR.out (by omega), if_pos (by omega)]; rfl, n + nq, os, ?_⟩
    rw [← hwn.out, hos, World.drewN_drewN]
    rfl
   ·go_wp2
    rw [hwm.out]
    go_quiet (fail)
    by_cases h2 : b < a
    ·go_wp2
     go_ret
     obtain ⟨k, hk⟩ := HD.out
     refine ⟨by rw [HR.out (by omega), if_neg (by omega)]; rfl, ?_⟩
     rw [hk, World.drewN_drewN]
     exact drewN_grown HG.out _
    ·have hab : a = b := by omega
     go_wp2
     go_roundw
     case rel =>
      obtain ⟨k, hk⟩ := HD.out
      exact ⟨t + 1, _, by omega, by go_num, fun k hk => by
       rcases Nat.lt_or_eq_of_le (Nat.le_of_lt_succ hk) with h | h
       ·exact HK.out k h
       ·subst h; rw [ha.out, hb.out, hab], by rw [hk, World.drewN_drewN]⟩
     case measure => simp [intOf]; omega
  ·obtain rfl : t = 32 := by omega
   go_wp2
   go_ret
   obtain ⟨os, hos⟩ := HG.out
   exact ⟨by rw [hr.out, (cmpG_zero x y 32 0).2 fun k _ hk => HK.out k (by omega)]; rfl, n, os, by rw [hos]; rfl⟩

/-- The document's Compare. -/
theorem refCompare_any (x y : Hs) (w : World) : Calls Try.prog 57 #[.agg (bytesA 32 x.f), .agg (bytesA 32 y.f)] w fun e w' => e = .returned (.int .i64 (cf x y)) ∧ ∃ q os, w' = grow (w.drewN q) os :=
 refCompare_walk (bytesA 32 x.f) (bytesA 32 y.f) x.f y.f w (fun _ ht => bytesA_get _ _ _ ht) (fun _ ht => bytesA_get _ _ _ ht)
end Go.Proofs.Ytogmdfhicbmplaa
namespace Go.Proofs.Ytogmdfhicbmplaa
open Go.RowKit Go.Sort

/-- The lists are the same. -/
def same (L M : List Hs) : Bool := decide (L = M)
end Go.Proofs.Ytogmdfhicbmplaa
namespace Go.Proofs.Ytogmdfhicbmplaa
open Go.RowKit Go.Sort

set_option maxRecDepth 8000 in
set_option maxHeartbeats 1000000 in
/-- Lists of one length, in a loop. -/
theorem same_walk (n b1 o1 c1 b2 o2 c2 : Nat) (L M : List Hs) (w : World) (hL : L.length = n) (hM : M.length = n) (h1 : w.rangeAt b1 o1 (flatH L)) (h2 : w.rangeAt b2 o2 (flatH M)) (hn : (n : Int) ≤ 9223372036854775807) :
  Calls Try.prog 62 #[.slice (some ⟨b1, o1, none⟩) n c1, .slice (some ⟨b2, o2, none⟩) n c2] w fun e w' => e = .returned (.bool (decide (L = M))) ∧ ∃ q, w' = w.drewN q := by
 obtain ⟨R, hR⟩ : ∃ R, Keep (R = decide (L = M)) := ⟨_, ⟨rfl⟩⟩
 rw [← hR.out]
 have HL : Keep (L.length = n) := ⟨hL⟩
 have HM : Keep (M.length = n) := ⟨hM⟩
 have H1 : Keep (w.rangeAt b1 o1 (flatH L)) := ⟨h1⟩
 have H2 : Keep (w.rangeAt b2 o2 (flatH M)) := ⟨h2⟩
 have hu := Try.underlying36
 clear hL hM h1 h2
 go_enter Try.func62, Try.ntmps62
 go_wp2
 go_loopw [5] (fun i wr => ∃ t q : Nat, t ≤ n ∧ i = .int .i64 (t : Int) ∧ (∀ k, k < t → L[k]? = M[k]?) ∧ wr = w.drewN q) (fun i _ => n - (intOf i).toNat)
 case atStart => exact ⟨0, 0, by omega, rfl, fun k hk => by omega, by rw [World.drewN_zero]⟩
 case round =>
  obtain ⟨t, q, ht, rfl, hke, rfl⟩ := hrel
  have HK : Keep (∀ k, k < t → L[k]? = M[k]?) := ⟨hke⟩
  clear hke
  by_cases hlt : t < n
  ·have l1 : t < L.length := by rw [HL.out]; exact hlt
   have l2 : t < M.length := by rw [HM.out]; exact hlt
   have hneq := run_neqL L[t] M[t]
   have cA : (w.drewN q).drew.rangeAt b1 (o1 + t * 32) (encH L[t]) := rangeAt_drew (rangeAt_drewN (rangeAt_elem H1.out t l1))
   have cB : (w.drewN q).drew.rangeAt b2 (o2 + t * 32) (encH M[t]) := rangeAt_drew (rangeAt_drewN (rangeAt_elem H2.out t l2))
   have hi1 := Try.size36L L[t]
   have hi2 := Try.size36L M[t]
   obtain ⟨E, hE⟩ : ∃ E, Keep (E = !decide (L[t] = M[t])) := ⟨_, ⟨rfl⟩⟩
   rw [← hE.out] at hneq
   have HE : Keep (E = false → L[t]? = M[t]?) := ⟨fun h => by
    have := hE.out; rw [h] at this
    rw [List.getElem?_eq_getElem l1, List.getElem?_eq_getElem l2]; simpa using this⟩
   have HF : Keep (E = true → R = false) := ⟨fun h => by
    have := hE.out; rw [h] at this
    rw [hR.out]; refine decide_eq_false fun e => ?_
    subst e; simp at this⟩
   clear hE
   generalize encH L[t] = CA at *
   generalize encH M[t] = CB at *
   obtain ⟨wn, hwn⟩ : ∃ wn, Keep (w.drewN q = wn) := ⟨_, ⟨rfl⟩⟩
   rw [hwn.out] at cA cB ⊢
   have hlt' : (t : Int) < (n : Int) := by omega
   clear l1 l2
   go_wp2
   refine wp_region_held_drew (S := fun w' => w'.rangeAt b1 (o1 + t * 32) CA ∧ w'.rangeAt b2 (o2 + t * 32) CB) (by kernel_rfl) ⟨cA, cB⟩ (fun hHeld => ?_)
   refine tkS (i := 0) (oi := ⟨some 17, Op.move (Operand.tmp 0), 37, _, _, none⟩) (v := Value.slice (some ⟨b1, o1, none⟩) n c1) rfl (Or.inl ⟨by rfl, fun w hS => by go_simp⟩) hHeld ?_
   refine tkS (i := 1) (oi := ⟨some 18, Op.move (Operand.tmp 5), 3, _, _, none⟩) (v := .int .i64 (t : Int)) rfl (Or.inl ⟨by rfl, fun w hS => by go_simp⟩) hHeld ?_
   refine tkS (i := 2) (oi := ⟨some 19, Op.indexAddr 37 (Operand.tmp 17) (Operand.tmp 18), 0, _, _, none⟩) (v := .pointer (some ⟨b1, o1 + t * 32, none⟩)) rfl (Or.inl ⟨by rfl, fun w hS => by go_simp⟩) hHeld ?_
   refine tkS (i := 3) (oi := ⟨some 20, Op.load 36 (Operand.tmp 19), 36, _, _, none⟩) (v := .agg (CA).toArray) rfl (yieldsIf_load_mid (by rfl) 36 (Operand.tmp 19) rfl b1 (o1 + t * 32) rfl CA _ (fun w hS => hS.1) hu rfl hi1) hHeld ?_
   refine tkS (i := 4) (oi := ⟨some 21, Op.move (Operand.tmp 1), 37, _, _, none⟩) (v := Value.slice (some ⟨b2, o2, none⟩) n c2) rfl (Or.inl ⟨by rfl, fun w hS => by go_simp⟩) hHeld ?_
   refine tkS (i := 5) (oi := ⟨some 22, Op.move (Operand.tmp 5), 3, _, _, none⟩) (v := .int .i64 (t : Int)) rfl (Or.inl ⟨by rfl, fun w hS => by go_simp⟩) hHeld ?_
   refine tkS (i := 6) (oi := ⟨some 23, Op.indexAddr 37 (Operand.tmp 21) (Operand.tmp 22), 0, _, _, none⟩) (v := .pointer (some ⟨b2, o2 + t * 32, none⟩)) rfl (Or.inl ⟨by rfl, fun w hS => by go_simp⟩) hHeld ?_
   refine tkS (i := 7) (oi := ⟨some 24, Op.load 36 (Operand.tmp 23), 36, _, _, none⟩) (v := .agg (CB).toArray) rfl (yieldsIf_load_mid (by rfl) 36 (Operand.tmp 23) rfl b2 (o2 + t * 32) rfl CB _ (fun w hS => hS.2) hu rfl hi2) hHeld ?_
   refine tkS (i := 8) (oi := ⟨some 25, Op.binOp BinOp.neq 36 (Operand.tmp 20) (Operand.tmp 24) 36, 4, _, _, none⟩) (v := .bool E) rfl (Or.inl ⟨by rfl, fun w hS => by go_simp⟩) hHeld ?_
   refine wpAnyH_done (by kernel_rfl) ?_ _
   have HD : Keep (∃ k, wn.drew = w.drewN k) := ⟨_, by rw [← hwn.out, World.drew_drewN]⟩
   cases E with
   | true =>
    have HF2 : Keep (R = false) := ⟨HF.out rfl⟩
    clear HF HE
    go_wp2
    go_ret
    exact ⟨by rw [HF2.out]; rfl, HD.out⟩
   | false =>
    have HE2 : Keep (L[t]? = M[t]?) := ⟨HE.out rfl⟩
    clear HF HE
    go_wp2
    go_roundw
    case rel =>
     obtain ⟨k, hk⟩ := HD.out
     exact ⟨t + 1, k, by omega, by go_num, fun k hk => by
      rcases Nat.lt_or_eq_of_le (Nat.le_of_lt_succ hk) with h | h
      ·exact HK.out k h
      ·subst h; exact HE2.out, hk⟩
    case measure => simp [intOf]; omega
  ·obtain rfl : t = n := by omega
   go_wp2
   go_ret
   refine ⟨?_, q, rfl⟩
   rw [hR.out, decide_eq_true (List.ext_getElem? fun i => ?_)]
   ·rfl
   ·by_cases hi : i < t
    ·exact HK.out i hi
    ·have e1 := HL.out
     have e2 := HM.out
     rw [List.getElem?_eq_none (by omega), List.getElem?_eq_none (by omega)]

set_option maxRecDepth 8000 in
set_option maxHeartbeats 400000 in
theorem same_ne (a1 a2 : Option Addr) (n m c1 c2 : Nat) (w : World) (h : n ≠ m) : Calls Try.prog 62 #[.slice a1 n c1, .slice a2 m c2] w fun e w' => e = .returned (.bool false) ∧ w' = w := by
 have h' : ¬ ((n : Int) = (m : Int)) := by omega
 go_enter Try.func62, Try.ntmps62
 go_wp2
 go_ret
 exact ⟨rfl, rfl⟩
set_option maxRecDepth 8000 in
set_option maxHeartbeats 400000 in
theorem same_none (a1 a2 : Option Addr) (c1 c2 : Nat) (w : World) : Calls Try.prog 62 #[.slice a1 0 c1, .slice a2 0 c2] w fun e w' => e = .returned (.bool true) ∧ w' = w := by
 go_enter Try.func62, Try.ntmps62
 go_wp2
 refine wp_loop_rounds 1 ?_; rw [rounds_succ]
 go_wp2
 go_ret
 exact ⟨rfl, rfl⟩
/-- The document's Same. -/
theorem same_any (v1 v2 : Value) (L M : List Hs) (w : World) (h1 : HRow w v1 L) (h2 : HRow w v2 M) (hn : (L.length : Int) ≤ 9223372036854775807) :
  Calls Try.prog 62 #[v1, v2] w fun e w' => e = .returned (.bool (decide (L = M))) ∧ ∃ q, w' = w.drewN q := by
 obtain ⟨a1, c1, rfl⟩ := h1.form
 obtain ⟨a2, c2, rfl⟩ := h2.form
 by_cases hl : L.length = M.length
 ·by_cases h0 : 0 < L.length
  ·obtain ⟨b1, o1, rfl, _, _, r1⟩ := h1.at h0
   obtain ⟨b2, o2, rfl, _, _, r2⟩ := h2.at (by omega)
   rw [← hl]
   exact same_walk L.length b1 o1 c1 b2 o2 c2 L M w rfl hl.symm r1 r2 hn
  ·have e1 : L = [] := List.eq_nil_of_length_eq_zero (by omega)
   have e2 : M = [] := List.eq_nil_of_length_eq_zero (by omega)
   subst e1 e2
   exact (same_none a1 a2 c1 c2 w).mono fun e w' h => ⟨by rw [h.1]; simp, 0, by rw [h.2, World.drewN_zero]⟩
 ·exact (same_ne a1 a2 _ _ c1 c2 w hl).mono fun e w' h => ⟨by rw [h.1, decide_eq_false fun e => hl (by rw [e])], 0, by rw [h.2, World.drewN_zero]⟩
end Go.Proofs.Ytogmdfhicbmplaa
namespace Go.Proofs.Ytogmdfhicbmplaa
open Go.RowKit Go.Sort

/-- Does each stand behind the one ahead of it? -/
def risesB (L : List Hs) : Bool := (List.range (L.length - 1)).all fun i => decide (cf (L.getD i default) (L.getD (i + 1) default) < 0)
theorem risesB_iff (L : List Hs) : risesB L = true ↔ ∀ i, i + 1 < L.length → cf (L.getD i default) (L.getD (i + 1) default) < 0 := by
 unfold risesB
 rw [List.all_eq_true]
 constructor
 ·intro h i hi
  exact of_decide_eq_true (h i (List.mem_range.2 (by omega)))
 ·intro h i hi
  exact decide_eq_true (h i (by have := List.mem_range.1 hi; omega))
theorem Try.enter86 (w : World) (vs : Array Value) : (callFunc 86 vs).run Try.prog w = .ok (.enter 86 vs) w := by kernel_rfl
theorem Try.enter57 (w : World) (vs : Array Value) : (callFunc 57 vs).run Try.prog w = .ok (.enter 57 vs) w := by kernel_rfl

set_option maxRecDepth 8000 in
set_option maxHeartbeats 1000000 in
theorem rising_walk (n b o c : Nat) (L : List Hs) (w : World) (hL : L.length = n) (h1 : w.rangeAt b o (flatH L)) (hn : (n : Int) ≤ 9223372036854775806) (h0 : 0 < n) :
  Calls Try.prog 87 #[.slice (some ⟨b, o, none⟩) n c] w fun e w' => e = .returned (.bool (risesB L)) ∧ Below w.heap.size w w' := by
 obtain ⟨R, hR⟩ : ∃ R, Keep (R = risesB L) := ⟨_, ⟨rfl⟩⟩
 rw [← hR.out]
 have HL : Keep (L.length = n) := ⟨hL⟩
 have H1 : Keep (w.rangeAt b o (flatH L)) := ⟨h1⟩
 have hblt : b < w.heap.size := rangeAt_lt h1 (by omega)
 have hu := Try.underlying36
 clear hL h1
 go_enter Try.func87, Try.ntmps87
 go_wp2
 go_loopw [3] (fun i wr => ∃ t : Nat, t + 1 ≤ n ∧ i = .int .i64 ((t + 1 : Nat) : Int) ∧ (∀ k, k < t → cf (L.getD k default) (L.getD (k + 1) default) < 0) ∧ Below w.heap.size w wr) (fun i _ => n - (intOf i).toNat)
 case atStart => exact ⟨0, by omega, rfl, fun k hk => by omega, Below.refl _ _⟩
 case round =>
  obtain ⟨t, ht, rfl, hke, hB⟩ := hrel
  have HK : Keep (∀ k, k < t → cf (L.getD k default) (L.getD (k + 1) default) < 0) := ⟨hke⟩
  clear hke
  by_cases hlt : t + 1 < n
  ·have l1 : t < L.length := by rw [HL.out]; omega
   have l2 : t + 1 < L.length := by rw [HL.out]; exact hlt
   have HC : Keep (∀ w, Calls Try.prog 86 #[.agg (encH L[t]).toArray, .agg (encH L[t + 1]).toArray] w fun e w' => e = .returned (.int .i64 (cf L[t] L[t + 1])) ∧ Below w.heap.size w w') := ⟨fun w => by
    rw [encH_arr, encH_arr]
    refine (compare_any _ _ w).mono fun e w' h => ⟨h.1, ?_⟩
    obtain ⟨q, os, rfl⟩ := h.2
    exact grown_below w q os⟩
   have HS : Keep (∀ wx, Below wr.heap.size wr wx → wx.rangeAt b (o + t * 32) (encH L[t]) ∧ wx.rangeAt b (o + (t + 1) * 32) (encH L[t + 1])) := ⟨fun wx hx => by
    have hb2 := hB.trans (hx.mono hB.size)
    exact ⟨rangeAt_below (rangeAt_elem H1.out t l1) hb2 hblt, rangeAt_below (rangeAt_elem H1.out (t + 1) l2) hb2 hblt⟩⟩
   have hi1 := Try.size36L L[t]
   have hi2 := Try.size36L L[t + 1]
   obtain ⟨r, hr⟩ : ∃ r, Keep (r = cf L[t] L[t + 1]) := ⟨_, ⟨rfl⟩⟩
   rw [← hr.out] at HC
   have HE : Keep (r = cf (L.getD t default) (L.getD (t + 1) default)) := ⟨by
    rw [hr.out, List.getD_eq_getElem?_getD, List.getD_eq_getElem?_getD, List.getElem?_eq_getElem l1, List.getElem?_eq_getElem l2]; rfl⟩
   clear hr
   generalize encH L[t] = CA at *
   generalize encH L[t + 1] = CB at *
   clear l1 l2
   rename World => wn
   have hD0 : Below wn.heap.size wn wn.drew := (Below.refl _ _).drew
   have hlt' : ((t + 1 : Nat) : Int) < (n : Int) := by omega
   have hs1 : ((t + 1 : Nat) : Int) - 1 = (t : Int) := by omega
   have hlt2 : (t : Int) < (n : Int) := by omega
   have hwr : IntKind.i64.wrap (t : Int) = (t : Int) := by rw [IntKind.wrap_i64]; omega
   have hng : ¬ ((t : Int) + 1 < 0) := by omega
   go_wp2
   refine wp_region_held_drew (S := fun w' => w'.rangeAt b (o + t * 32) CA ∧ w'.rangeAt b (o + (t + 1) * 32) CB) (by kernel_rfl) (HS.out _ hD0) (fun hHeld => ?_)
   refine tkS (i := 0) (oi := ⟨some 10, Op.move (Operand.tmp 0), 37, _, _, none⟩) (v := Value.slice (some ⟨b, o, none⟩) n c) rfl (Or.inl ⟨by rfl, fun w hS => by go_simp⟩) hHeld ?_
   refine tkS (i := 1) (oi := ⟨some 11, Op.move (Operand.tmp 3), 3, _, _, none⟩) (v := .int .i64 ((t + 1 : Nat) : Int)) rfl (Or.inl ⟨by rfl, fun w hS => by go_simp⟩) hHeld ?_
   refine tkS (i := 2) (oi := ⟨some 12, Op.binOp BinOp.sub 3 (Operand.tmp 11) (Operand.const (Value.int IntKind.i64 1)) 3, 3, _, _, none⟩) (v := .int .i64 (t : Int)) rfl (Or.inl ⟨by rfl, fun w hS => by go_simp⟩) hHeld ?_
   refine tkS (i := 3) (oi := ⟨some 13, Op.indexAddr 37 (Operand.tmp 10) (Operand.tmp 12), 0, _, _, none⟩) (v := .pointer (some ⟨b, o + t * 32, none⟩)) rfl (Or.inl ⟨by rfl, fun w hS => by go_simp⟩) hHeld ?_
   refine tkS (i := 4) (oi := ⟨some 14, Op.load 36 (Operand.tmp 13), 36, _, _, none⟩) (v := .agg (CA).toArray) rfl (yieldsIf_load_mid (by rfl) 36 (Operand.tmp 13) rfl b (o + t * 32) rfl CA _ (fun w hS => hS.1) hu rfl hi1) hHeld ?_
   refine tkS (i := 5) (oi := ⟨some 15, Op.move (Operand.tmp 0), 37, _, _, none⟩) (v := Value.slice (some ⟨b, o, none⟩) n c) rfl (Or.inl ⟨by rfl, fun w hS => by go_simp⟩) hHeld ?_
   refine tkS (i := 6) (oi := ⟨some 16, Op.move (Operand.tmp 3), 3, _, _, none⟩) (v := .int .i64 ((t + 1 : Nat) : Int)) rfl (Or.inl ⟨by rfl, fun w hS => by go_simp⟩) hHeld ?_
   refine tkS (i := 7) (oi := ⟨some 17, Op.indexAddr 37 (Operand.tmp 15) (Operand.tmp 16), 0, _, _, none⟩) (v := .pointer (some ⟨b, o + (t + 1) * 32, none⟩)) rfl (Or.inl ⟨by rfl, fun w hS => by go_simp⟩) hHeld ?_
   refine tkS (i := 8) (oi := ⟨some 18, Op.load 36 (Operand.tmp 17), 36, _, _, none⟩) (v := .agg (CB).toArray) rfl (yieldsIf_load_mid (by rfl) 36 (Operand.tmp 17) rfl b (o + (t + 1) * 32) rfl CB _ (fun w hS => hS.2) hu rfl hi2) hHeld ?_
   refine wpAnyH_ready (rs := [9]) (by kernel_rfl) (by simp) ?_
   refine AllReadyH.cons (o := ⟨some 19, Op.call { callee := Callee.value (Operand.func 86), args := #[Operand.tmp 14, Operand.tmp 18], argTypes := #[36, 36] }, 3, _, _, none⟩) rfl (fun K hK => ?_) AllReadyH.nil
   rw [if_pos (by rfl)]
   refine wp_callF 86 #[.tmp 14, .tmp 18] #[36, 36] rfl Try.enter86 #[.agg CA.toArray, .agg CB.toArray] (by simp [Act.eval]) (fun v w' => v = .int .i64 r ∧ Below wn.drew.heap.size wn.drew w') ((HC.out wn.drew).mono fun e w' h => ⟨_, h.1, rfl, h.2⟩) ?_
   rintro v w5 ⟨rfl, hb5⟩
   have hB5 : Below wn.heap.size wn w5 := hD0.trans (hb5.mono hD0.size)
   refine hK.out _ _ (HS.out _ hB5) fun hHeld5 => ?_
   clear hK
   simp only [Act.put, pqA, pqB, pqC]
   refine tkS (i := 10) (oi := ⟨some 20, Op.binOp BinOp.geq 3 (Operand.tmp 19) (Operand.const (Value.int IntKind.i64 0)) 3, 4, _, _, none⟩) (v := .bool (decide (0 ≤ r))) rfl (Or.inl ⟨by rfl, fun w hS => by go_simp⟩) hHeld5 ?_
   refine wpAnyH_done (by kernel_rfl) ?_ _
   have hBn : Below w.heap.size w w5 := hB.trans (hB5.mono hB.size)
   by_cases hr0 : 0 ≤ r
   ·have HF : Keep (R = false) := ⟨by
     rw [hR.out, Bool.eq_false_iff]; intro h
     have := (risesB_iff L).1 h t (by rw [HL.out]; exact hlt)
     rw [← HE.out] at this; omega⟩
    go_wp2
    go_ret
    exact ⟨by rw [HF.out]; rfl, hBn⟩
   ·have HE2 : Keep (cf (L.getD t default) (L.getD (t + 1) default) < 0) := ⟨by rw [← HE.out]; omega⟩
    go_wp2
    go_roundw
    case rel => exact ⟨t + 1, by omega, by go_num, fun k hk => by
      rcases Nat.lt_or_eq_of_le (Nat.le_of_lt_succ hk) with h | h
      ·exact HK.out k h
      ·subst h; exact HE2.out, hBn⟩
    case measure => simp [intOf]; omega
  ·obtain rfl : t + 1 = n := by omega
   go_wp2
   go_ret
   refine ⟨?_, hB⟩
   rw [hR.out, (risesB_iff L).2 fun i hi => HK.out i (by have := HL.out; omega)]
   rfl
set_option maxRecDepth 8000 in
set_option maxHeartbeats 400000 in
theorem rising_none (a1 : Option Addr) (c1 : Nat) (w : World) : Calls Try.prog 87 #[.slice a1 0 c1] w fun e w' => e = .returned (.bool true) ∧ w' = w := by
 go_enter Try.func87, Try.ntmps87
 go_wp2
 refine wp_loop_rounds 1 ?_; rw [rounds_succ]
 go_wp2
 go_ret
 exact ⟨rfl, rfl⟩
theorem rising_any (v : Value) (L : List Hs) (w : World) (h : HRow w v L) (hn : (L.length : Int) ≤ 9223372036854775806) :
  Calls Try.prog 87 #[v] w fun e w' => e = .returned (.bool (risesB L)) ∧ Below w.heap.size w w' := by
 obtain ⟨a1, c1, rfl⟩ := h.form
 by_cases h0 : 0 < L.length
 ·obtain ⟨b1, o1, rfl, _, _, r1⟩ := h.at h0
  exact rising_walk L.length b1 o1 c1 L w rfl r1 hn h0
 ·have e1 : L = [] := List.eq_nil_of_length_eq_zero (by omega)
  subst e1
  exact (rising_none a1 c1 w).mono fun e w' h => ⟨by rw [h.1, (risesB_iff []).2 fun i hi => by simp at hi], by rw [h.2]; exact Below.refl _ _⟩

set_option maxRecDepth 8000 in
set_option maxHeartbeats 1000000 in
theorem refRising_walk (n b o c : Nat) (L : List Hs) (w : World) (hL : L.length = n) (h1 : w.rangeAt b o (flatH L)) (hn : (n : Int) ≤ 9223372036854775806) (h0 : 0 < n) :
  Calls Try.prog 65 #[.slice (some ⟨b, o, none⟩) n c] w fun e w' => e = .returned (.bool (risesB L)) ∧ Below w.heap.size w w' := by
 obtain ⟨R, hR⟩ : ∃ R, Keep (R = risesB L) := ⟨_, ⟨rfl⟩⟩
 rw [← hR.out]
 have HL : Keep (L.length = n) := ⟨hL⟩
 have H1 : Keep (w.rangeAt b o (flatH L)) := ⟨h1⟩
 have hblt : b < w.heap.size := rangeAt_lt h1 (by omega)
 have hu := Try.underlying36
 clear hL h1
 go_enter Try.func65, Try.ntmps65
 go_wp2
 go_loopw [3] (fun i wr => ∃ t : Nat, t + 1 ≤ n ∧ i = .int .i64 ((t + 1 : Nat) : Int) ∧ (∀ k, k < t → cf (L.getD k default) (L.getD (k + 1) default) < 0) ∧ Below w.heap.size w wr) (fun i _ => n - (intOf i).toNat)
 case atStart => exact ⟨0, by omega, rfl, fun k hk => by omega, Below.refl _ _⟩
 case round =>
  obtain ⟨t, ht, rfl, hke, hB⟩ := hrel
  have HK : Keep (∀ k, k < t → cf (L.getD k default) (L.getD (k + 1) default) < 0) := ⟨hke⟩
  clear hke
  by_cases hlt : t + 1 < n
  ·have l1 : t < L.length := by rw [HL.out]; omega
   have l2 : t + 1 < L.length := by rw [HL.out]; exact hlt
   have HC : Keep (∀ w, Calls Try.prog 57 #[.agg (encH L[t]).toArray, .agg (encH L[t + 1]).toArray] w fun e w' => e = .returned (.int .i64 (cf L[t] L[t + 1])) ∧ Below w.heap.size w w') := ⟨fun w => by
    rw [encH_arr, encH_arr]
    refine (refCompare_any _ _ w).mono fun e w' h => ⟨h.1, ?_⟩
    obtain ⟨q, os, rfl⟩ := h.2
    exact grown_below w q os⟩
   have HS : Keep (∀ wx, Below wr.heap.size wr wx → wx.rangeAt b (o + t * 32) (encH L[t]) ∧ wx.rangeAt b (o + (t + 1) * 32) (encH L[t + 1])) := ⟨fun wx hx => by
    have hb2 := hB.trans (hx.mono hB.size)
    exact ⟨rangeAt_below (rangeAt_elem H1.out t l1) hb2 hblt, rangeAt_below (rangeAt_elem H1.out (t + 1) l2) hb2 hblt⟩⟩
   have hi1 := Try.size36L L[t]
   have hi2 := Try.size36L L[t + 1]
   obtain ⟨r, hr⟩ : ∃ r, Keep (r = cf L[t] L[t + 1]) := ⟨_, ⟨rfl⟩⟩
   rw [← hr.out] at HC
   have HE : Keep (r = cf (L.getD t default) (L.getD (t + 1) default)) := ⟨by
    rw [hr.out, List.getD_eq_getElem?_getD, List.getD_eq_getElem?_getD, List.getElem?_eq_getElem l1, List.getElem?_eq_getElem l2]; rfl⟩
   clear hr
   generalize encH L[t] = CA at *
   generalize encH L[t + 1] = CB at *
   clear l1 l2
   rename World => wn
   have hD0 : Below wn.heap.size wn wn.drew := (Below.refl _ _).drew
   have hlt' : ((t + 1 : Nat) : Int) < (n : Int) := by omega
   have hs1 : ((t + 1 : Nat) : Int) - 1 = (t : Int) := by omega
   have hlt2 : (t : Int) < (n : Int) := by omega
   have hwr : IntKind.i64.wrap (t : Int) = (t : Int) := by rw [IntKind.wrap_i64]; omega
   have hng : ¬ ((t : Int) + 1 < 0) := by omega
   go_wp2
   refine wp_region_held_drew (S := fun w' => w'.rangeAt b (o + t * 32) CA ∧ w'.rangeAt b (o + (t + 1) * 32) CB) (by kernel_rfl) (HS.out _ hD0) (fun hHeld => ?_)
   refine tkS (i := 0) (oi := ⟨some 10, Op.move (Operand.tmp 0), 37, _, _, none⟩) (v := Value.slice (some ⟨b, o, none⟩) n c) rfl (Or.inl ⟨by rfl, fun w hS => by go_simp⟩) hHeld ?_
   refine tkS (i := 1) (oi := ⟨some 11, Op.move (Operand.tmp 3), 3, _, _, none⟩) (v := .int .i64 ((t + 1 : Nat) : Int)) rfl (Or.inl ⟨by rfl, fun w hS => by go_simp⟩) hHeld ?_
   refine tkS (i := 2) (oi := ⟨some 12, Op.binOp BinOp.sub 3 (Operand.tmp 11) (Operand.const (Value.int IntKind.i64 1)) 3, 3, _, _, none⟩) (v := .int .i64 (t : Int)) rfl (Or.inl ⟨by rfl, fun w hS => by go_simp⟩) hHeld ?_
   refine tkS (i := 3) (oi := ⟨some 13, Op.indexAddr 37 (Operand.tmp 10) (Operand.tmp 12), 0, _, _, none⟩) (v := .pointer (some ⟨b, o + t * 32, none⟩)) rfl (Or.inl ⟨by rfl, fun w hS => by go_simp⟩) hHeld ?_
   refine tkS (i := 4) (oi := ⟨some 14, Op.load 36 (Operand.tmp 13), 36, _, _, none⟩) (v := .agg (CA).toArray) rfl (yieldsIf_load_mid (by rfl) 36 (Operand.tmp 13) rfl b (o + t * 32) rfl CA _ (fun w hS => hS.1) hu rfl hi1) hHeld ?_
   refine tkS (i := 5) (oi := ⟨some 15, Op.move (Operand.tmp 0), 37, _, _, none⟩) (v := Value.slice (some ⟨b, o, none⟩) n c) rfl (Or.inl ⟨by rfl, fun w hS => by go_simp⟩) hHeld ?_
   refine tkS (i := 6) (oi := ⟨some 16, Op.move (Operand.tmp 3), 3, _, _, none⟩) (v := .int .i64 ((t + 1 : Nat) : Int)) rfl (Or.inl ⟨by rfl, fun w hS => by go_simp⟩) hHeld ?_
   refine tkS (i := 7) (oi := ⟨some 17, Op.indexAddr 37 (Operand.tmp 15) (Operand.tmp 16), 0, _, _, none⟩) (v := .pointer (some ⟨b, o + (t + 1) * 32, none⟩)) rfl (Or.inl ⟨by rfl, fun w hS => by go_simp⟩) hHeld ?_
   refine tkS (i := 8) (oi := ⟨some 18, Op.load 36 (Operand.tmp 17), 36, _, _, none⟩) (v := .agg (CB).toArray) rfl (yieldsIf_load_mid (by rfl) 36 (Operand.tmp 17) rfl b (o + (t + 1) * 32) rfl CB _ (fun w hS => hS.2) hu rfl hi2) hHeld ?_
   refine wpAnyH_ready (rs := [9]) (by kernel_rfl) (by simp) ?_
   refine AllReadyH.cons (o := ⟨some 19, Op.call { callee := Callee.value (Operand.func 57), args := #[Operand.tmp 14, Operand.tmp 18], argTypes := #[36, 36] }, 3, _, _, none⟩) rfl (fun K hK => ?_) AllReadyH.nil
   rw [if_pos (by rfl)]
   refine wp_callF 57 #[.tmp 14, .tmp 18] #[36, 36] rfl Try.enter57 #[.agg CA.toArray, .agg CB.toArray] (by simp [Act.eval]) (fun v w' => v = .int .i64 r ∧ Below wn.drew.heap.size wn.drew w') ((HC.out wn.drew).mono fun e w' h => ⟨_, h.1, rfl, h.2⟩) ?_
   rintro v w5 ⟨rfl, hb5⟩
   have hB5 : Below wn.heap.size wn w5 := hD0.trans (hb5.mono hD0.size)
   refine hK.out _ _ (HS.out _ hB5) fun hHeld5 => ?_
   clear hK
   simp only [Act.put, pqA, pqB, pqC]
   refine tkS (i := 10) (oi := ⟨some 20, Op.binOp BinOp.geq 3 (Operand.tmp 19) (Operand.const (Value.int IntKind.i64 0)) 3, 4, _, _, none⟩) (v := .bool (decide (0 ≤ r))) rfl (Or.inl ⟨by rfl, fun w hS => by go_simp⟩) hHeld5 ?_
   refine wpAnyH_done (by kernel_rfl) ?_ _
   have hBn : Below w.heap.size w w5 := hB.trans (hB5.mono hB.size)
   by_cases hr0 : 0 ≤ r
   ·have HF : Keep (R = false) := ⟨by
     rw [hR.out, Bool.eq_false_iff]; intro h
     have := (risesB_iff L).1 h t (by rw [HL.out]; exact hlt)
     rw [← HE.out] at this; omega⟩
    go_wp2
    go_ret
    exact ⟨by rw [HF.out]; rfl, hBn⟩
   ·have HE2 : Keep (cf (L.getD t default) (L.getD (t + 1) default) < 0) := ⟨by rw [← HE.out]; omega⟩
    go_wp2
    go_roundw
    case rel => exact ⟨t + 1, by omega, by go_num, fun k hk => by
      rcases Nat.lt_or_eq_of_le (Nat.le_of_lt_succ hk) with h | h
      ·exact HK.out k h
      ·subst h; exact HE2.out, hBn⟩
    case measure => simp [intOf]; omega
  ·obtain rfl : t + 1 = n := by omega
   go_wp2
   go_ret
   refine ⟨?_, hB⟩
   rw [hR.out, (risesB_iff L).2 fun i hi => HK.out i (by have := HL.out; omega)]
   rfl
set_option maxRecDepth 8000 in
set_option maxHeartbeats 400000 in
theorem refRising_none (a1 : Option Addr) (c1 : Nat) (w : World) : Calls Try.prog 65 #[.slice a1 0 c1] w fun e w' => e = .returned (.bool true) ∧ w' = w := by
 go_enter Try.func65, Try.ntmps65
 go_wp2
 refine wp_loop_rounds 1 ?_; rw [rounds_succ]
 go_wp2
 go_ret
 exact ⟨rfl, rfl⟩
theorem refRising_any (v : Value) (L : List Hs) (w : World) (h : HRow w v L) (hn : (L.length : Int) ≤ 9223372036854775806) :
  Calls Try.prog 65 #[v] w fun e w' => e = .returned (.bool (risesB L)) ∧ Below w.heap.size w w' := by
 obtain ⟨a1, c1, rfl⟩ := h.form
 by_cases h0 : 0 < L.length
 ·obtain ⟨b1, o1, rfl, _, _, r1⟩ := h.at h0
  exact refRising_walk L.length b1 o1 c1 L w rfl r1 hn h0
 ·have e1 : L = [] := List.eq_nil_of_length_eq_zero (by omega)
  subst e1
  exact (refRising_none a1 c1 w).mono fun e w' h => ⟨by rw [h.1, (risesB_iff []).2 fun i hi => by simp at hi], by rw [h.2]; exact Below.refl _ _⟩
end Go.Proofs.Ytogmdfhicbmplaa
