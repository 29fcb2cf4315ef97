import Derived.Test.YthlohkgdmfkpeaaGreatChecked
import Derived.WalkKit
import Derived.WalkSpells
import Derived.WalkLawsBesides
import Derived.BigQuiet
import Derived.BigRegion
import Derived.Deep.WholeRow
import Derived.Deep.MidRow
import Derived.Deep.RegionWith
import Derived.Deep.DeepCutAuto
import Derived.Deep.RegionHeld3
import Derived.Deep.QuietTactic
import Derived.Laws.OwnMore
import Derived.Laws.BytesArg
import Derived.Lib.AppendStr
import Derived.Maps.AppendAt
import Derived.Deep.DeepAppendWide
import Derived.ChangeKeysEq
import Derived.Laws.StructEq
import Derived.ArgAppend
import Derived.Lib.ConvBytes
import Derived.Lib.BitFns
import Derived.Lib.Slices
import Derived.Lib.Small
import Derived.Lib.Strings
import Derived.Lib.Walk
import Derived.Maps.Own
namespace Go.Proofs.YthlohkgdmfkpeaaGreat.Nd
open Go.RowKit

theorem hid_in {p : Prop} (h : p) : Hid p := h
structure Keep (p : Prop) : Prop where
 out : p

def Blk (w : World) (b : Nat) (T : TypeId) (cs : Array Value) : Prop := w.heap[b]? = some (.cells cs T (0, 0))

theorem Blk.lt {w : World} {b : Nat} {T : TypeId} {cs : Array Value} (h : Blk w b T cs) : b < w.heap.size := (Array.getElem?_eq_some_iff.1 h).1
theorem Blk.cell {w : World} {b : Nat} {T : TypeId} {cs : Array Value} (h : Blk w b T cs) (j : Nat) : w.cell? ⟨b, j, none⟩ = cs[j]? := cell_of_row w b j cs T (0, 0) h
theorem Blk.frozen {w : World} {b : Nat} {T : TypeId} {cs : Array Value} (h : Blk w b T cs) (j : Nat) : w.frozen? ⟨b, j, none⟩ = false := by
 unfold Blk at h; simp [World.frozen?, h]
theorem Blk.new (w : World) (T : TypeId) (cs : Array Value) : Blk (w.alloc (.cells cs T)) w.heap.size T cs := heap_alloc_new w _
theorem Blk.alloc {w : World} {b : Nat} {T : TypeId} {cs : Array Value} (h : Blk w b T cs) (o : Obj) : Blk (w.alloc o) b T cs := by
 unfold Blk; rw [Below.heap_alloc w o b h.lt]; exact h
theorem Blk.drew {w : World} {b : Nat} {T : TypeId} {cs : Array Value} (h : Blk w b T cs) : Blk w.drew b T cs := h
theorem Blk.below {w w' : World} {B b : Nat} {T : TypeId} {cs : Array Value} (h : Blk w b T cs) (hb : Below B w w') (hlt : b < B) : Blk w' b T cs := by
 unfold Blk; rw [hb.block b hlt]; exact h
theorem Blk.set {w : World} {b : Nat} {T : TypeId} {cs : Array Value} (h : Blk w b T cs) (j : Nat) (v : Value) : Blk (w.setCell ⟨b, j, none⟩ v) b T (cs.setIfInBounds j v) := by
 unfold Blk; rw [setCell_eq_setRow w b j cs T (0, 0) v h]; exact setRow_heap w b cs _ T (0, 0) h
theorem Blk.setRow {w : World} {b : Nat} {T : TypeId} {cs : Array Value} (h : Blk w b T cs) (cs' : Array Value) : Blk (w.setRow b cs') b T cs' := setRow_heap w b cs cs' T (0, 0) h
theorem Blk.setRow_ne {w : World} {b b' : Nat} {T : TypeId} {cs : Array Value} (h : Blk w b T cs) (hne : b ≠ b') (cs' : Array Value) : Blk (w.setRow b' cs') b T cs := by
 unfold Blk; rw [setRow_other w b' b cs' hne]; exact h
theorem below_setRow {B : Nat} {a w : World} (h : Below B a w) {b : Nat} (hb : B ≤ b) (cs : Array Value) : Below B a (w.setRow b cs) :=
 h.trans ⟨rfl, rfl, rfl, by simp, fun k hk => setRow_other w b k cs (by omega)⟩
theorem below_new (w : World) (o : Obj) : Below w.heap.size w (w.alloc o) := (Below.refl _ _).alloc (Nat.le_refl _) o
theorem blk_type {w : World} {k : Nat} {T T' : TypeId} {cs cs' : Array Value} (h : Blk w k T cs) (h' : Blk w k T' cs') : T = T' := by
 unfold Blk at h h'; rw [h] at h'; simp at h'; exact h'.2
theorem cell_lt {w : World} {h j : Nat} {v : Value} (hc : w.cell? ⟨h, j, none⟩ = some v) : h < w.heap.size := by
 apply Nat.lt_of_not_le; intro hle
 simp [World.cell?, Array.getElem?_eq_none hle] at hc

abbrev ptr (g : Nat) : Value := .pointer (some ⟨g, 0, none⟩)

theorem grownBy_setCell (w : World) (g j : Nat) (v : Value) : w.grownBy (w.setCell ⟨g, j, none⟩ v) (some g) :=
 ⟨rfl, rfl, rfl, by simp [World.setCell], fun i _ hn => Below.heap_setCell w _ v i (fun e => hn (by rw [e]))⟩
theorem grownBy_setRow (w : World) (g : Nat) (cs : Array Value) : w.grownBy (w.setRow g cs) (some g) :=
 ⟨rfl, rfl, rfl, by simp, fun i _ hn => setRow_other w g i cs (fun e => hn (by rw [e]))⟩

structure Grown (w w' : World) (S : Nat → Prop) : Prop where
 os : w'.os = w.os
 tape : w'.tape = w.tape
 output : w'.output = w.output
 size : w.heap.size ≤ w'.heap.size
 block : ∀ k, k < w.heap.size → ¬ S k → w'.heap[k]? = w.heap[k]?
theorem Grown.refl (w : World) (S : Nat → Prop) : Grown w w S := ⟨rfl, rfl, rfl, Nat.le_refl _, fun _ _ _ => rfl⟩
theorem Grown.trans {a b c : World} {S : Nat → Prop} (h : Grown a b S) (k : Grown b c S) : Grown a c S :=
 ⟨k.os.trans h.os, k.tape.trans h.tape, k.output.trans h.output, Nat.le_trans h.size k.size, fun i hi hs => (k.block i (Nat.lt_of_lt_of_le hi h.size) hs).trans (h.block i hi hs)⟩
theorem Grown.next {a b c : World} {S T : Nat → Prop} (h : Grown a b S) (k : Grown b c T) (hT : ∀ i, i < a.heap.size → T i → S i) : Grown a c S :=
 ⟨k.os.trans h.os, k.tape.trans h.tape, k.output.trans h.output, Nat.le_trans h.size k.size, fun i hi hs => (k.block i (Nat.lt_of_lt_of_le hi h.size) (fun ht => hs (hT i hi ht))).trans (h.block i hi hs)⟩
theorem Grown.mono {a b : World} {S T : Nat → Prop} (h : Grown a b S) (hT : ∀ i, i < a.heap.size → S i → T i) : Grown a b T := (Grown.refl a T).next h hT
theorem Grown.of {a b : World} {S : Nat → Prop} {o : Option Nat} (h : a.grownBy b o) (ho : ∀ k, k < a.heap.size → o = some k → S k) : Grown a b S :=
 ⟨h.os, h.tape, h.output, h.size, fun i hi hs => h.block i hi (fun e => hs (ho i hi e.symm))⟩
theorem Grown.below {a b : World} {S : Nat → Prop} (h : Below a.heap.size a b) : Grown a b S := ⟨h.os, h.tape, h.output, h.size, fun i hi _ => h.block i hi⟩
theorem Grown.alloc (w : World) (o : Obj) (S : Nat → Prop) : Grown w (w.alloc o) S := Grown.below (below_new w o)
theorem Grown.drew {a b : World} {S : Nat → Prop} (h : Grown a b S) : Grown a b.drew S := ⟨h.os, h.tape, h.output, h.size, h.block⟩
theorem Grown.setCell (w : World) (g j : Nat) (v : Value) {S : Nat → Prop} (hS : g < w.heap.size → S g) : Grown w (w.setCell ⟨g, j, none⟩ v) S :=
 Grown.of (grownBy_setCell w g j v) fun k hk e => by injection e with e; subst e; exact hS hk
theorem Grown.setRow (w : World) (g : Nat) (cs : Array Value) {S : Nat → Prop} (hS : g < w.heap.size → S g) : Grown w (w.setRow g cs) S :=
 Grown.of (grownBy_setRow w g cs) fun k hk e => by injection e with e; subst e; exact hS hk
theorem Grown.blk {a b : World} {S : Nat → Prop} (h : Grown a b S) {k : Nat} {T : TypeId} {cs : Array Value} (hk : Blk a k T cs) (hs : ¬ S k) : Blk b k T cs := by
 unfold Blk; rw [h.block k hk.lt hs]; exact hk
theorem Grown.cell {a b : World} {S : Nat → Prop} (h : Grown a b S) {k j : Nat} {v : Value} (hk : a.cell? ⟨k, j, none⟩ = some v) (hs : ¬ S k) : b.cell? ⟨k, j, none⟩ = some v := by
 rw [World.cell?_of_block (h.block k (cell_lt hk) hs)]; exact hk
theorem Grown.to_below {a b : World} {S : Nat → Prop} (h : Grown a b S) {B : Nat} (hs : ∀ k, k < B → ¬ S k) (hB : B ≤ a.heap.size) : Below B a b :=
 ⟨h.os, h.tape, h.output, h.size, fun i hi => h.block i (by omega) (hs i hi)⟩

def bv (l : List Int) : List Value := l.map fun c => .int .u8 c
theorem bv_len (l : List Int) : (bv l).length = l.length := by simp [bv]
theorem bv_get (l : List Int) (i : Nat) (h : i < l.length) : (bv l)[i]? = some (.int .u8 (l.getD i 0)) := by
 simp [bv, h, List.getD]
theorem bv_one (l : List Int) : ∀ u ∈ bv l, u.oneCell' = true := fun u hu => by simp [bv] at hu; obtain ⟨_, _, rfl⟩ := hu; rfl

def Own (w : World) (v : Value) (l : List Int) : Prop := w.ownsRow 0 5 1 v l.length (bv l)
def Moved (w : World) (v v' : Value) : Prop := v'.ownBlock = v.ownBlock ∨ ∃ k, v'.ownBlock = some k ∧ w.heap.size ≤ k
theorem Moved.old {a : World} {v v1 : Value} (h : Moved a v v1) {k : Nat} (hk : k < a.heap.size) (e : v1.ownBlock = some k) : v.ownBlock = some k := by
 rcases h with h | ⟨i, h1, h2⟩
 ·rw [← h]; exact e
 ·rw [h1] at e; injection e with e; omega



section
end
end Go.Proofs.YthlohkgdmfkpeaaGreat.Nd
namespace Go.Proofs.YthlohkgdmfkpeaaGreat.Nd
open Go.RowKit



def Byts (l : List Int) : Prop := ∀ c ∈ l, 0 ≤ c ∧ c < 256
theorem Byts.getD {a : List Int} (h : Byts a) (n : Nat) : 0 ≤ a.getD n 0 ∧ a.getD n 0 < 256 := by
 rw [List.getD_eq_getElem?_getD]
 by_cases hn : n < a.length
 ·rw [List.getElem?_eq_getElem hn]; exact h _ (List.getElem_mem hn)
 ·rw [List.getElem?_eq_none (by omega)]; decide



end Go.Proofs.YthlohkgdmfkpeaaGreat.Nd
namespace Go.Proofs.YthlohkgdmfkpeaaGreat.Nd
open Go.RowKit















end Go.Proofs.YthlohkgdmfkpeaaGreat.Nd
namespace Go.Proofs.YthlohkgdmfkpeaaGreat.Nd
open Go.RowKit

def bytesA (n : Nat) (c : Nat → Int) : Array Value := Array.ofFn (n := n) fun i => .int .u8 (c i.val)
theorem bytesA_size (n : Nat) (c : Nat → Int) : (bytesA n c).size = n := by simp [bytesA]
theorem bytesA_get (n : Nat) (c : Nat → Int) (j : Nat) (h : j < n) : (bytesA n c)[j]? = some (.int .u8 (c j)) := by simp [bytesA, h]
def hl (n : Nat) (c : Nat → Int) : List Int := (List.range n).map c
theorem hl_len (n : Nat) (c : Nat → Int) : (hl n c).length = n := by simp [hl]
theorem hl_get (n : Nat) (c : Nat → Int) (i : Nat) (h : i < n) : (hl n c).getD i 0 = c i := by simp [hl, List.getD_eq_getElem?_getD, h]
theorem hl_bytesA (n : Nat) (c : Nat → Int) : (bytesA n c).toList = bv (hl n c) := by
 apply List.ext_getElem?
 intro i
 rw [Array.getElem?_toList]
 by_cases h : i < n
 ·rw [bytesA_get _ _ _ h, bv_get _ _ (by rw [hl_len]; exact h), hl_get _ _ _ h]
 ·rw [Array.getElem?_eq_none (by rw [bytesA_size]; omega), List.getElem?_eq_none (by rw [bv_len, hl_len]; omega)]

theorem Tryz.size36 : (Tryz.prog.info? 36).map (·.size) = some 32 := by kernel_rfl
theorem Tryz.size36B (c : Nat → Int) : (Tryz.prog.info? 36).map (·.size) = some (bytesA 32 c).size := by rw [bytesA_size]; exact Tryz.size36
theorem run_box_agg {P : Program} (w : World) (t : TypeId) (cs : Array Value) : (Instr.box t (.agg cs)).run P w = .ok (.pointer (some ⟨w.heap.size, 0, none⟩)) (w.alloc (.cells cs t)) := rfl
theorem wpList_boxA {P : Program} {ops : Array Oper} {rest : List Oper} {o : Oper} {a : Act} {w : World} {Q : Exit → Act → World → Prop} (hg : o.guard = none) (t : TypeId) (x : Operand) (ho : o.op = .box t x)
  (cs : Array Value) (hx : a.eval x = .agg cs)
  (h : wpList P ops Q rest (a.put o.dst (.pointer (some ⟨w.heap.size, 0, none⟩))) (w.alloc (.cells cs t))) : wpList P ops Q (o :: rest) a w := by
 refine wpList_plain hg fun K hK => ?_
 unfold Oper.wp execOp
 simp only [ho, hx, Sem.run_bind, run_box_agg, Result.andThen_ok]
 exact hK _ _ h



end Go.Proofs.YthlohkgdmfkpeaaGreat.Nd
namespace Go.Proofs.YthlohkgdmfkpeaaGreat.Nd
open Go.RowKit

def LayPost (v : Value) (l : List Int) (w : World) (e : Ending) (w' : World) : Prop :=
 ∃ v', e = .returned v' ∧ Own w' v' l ∧ Moved w v v' ∧ Grown w w' fun k => v.ownBlock = some k

end Go.Proofs.YthlohkgdmfkpeaaGreat.Nd
namespace Go.Proofs.YthlohkgdmfkpeaaGreat.Nd
open Go.RowKit



theorem wpList_bld {P : Program} {ops : Array Oper} {rest : List Oper} {o : Oper} {a : Act} {w : World} {Q : Exit → Act → World → Prop} (hg : o.guard = none) (t : TypeId) (parts : Array (Nat × Operand)) (ho : o.op = .build t parts)
  (cells : Array Value) (hf : P.built t (parts.map fun (i, x) => (i, a.eval x)).toList = some cells)
  (h : wpList P ops Q rest (a.put o.dst (.agg cells)) w) : wpList P ops Q (o :: rest) a w :=
 wpList_build hg t parts ho (by rw [hf]; rfl) (by rw [hf]; exact h)
theorem wpList_new {P : Program} {ops : Array Oper} {rest : List Oper} {o : Oper} {a : Act} {w : World} {Q : Exit → Act → World → Prop} (hg : o.guard = none) (t : TypeId) (ho : o.op = .alloc t)
  (cells : Array Value) (hf : ∀ w : World, (Instr.alloc t true (.tuple #[])).run P w = .ok (.pointer (some ⟨w.heap.size, 0, none⟩)) (w.alloc (.cells cells t)))
  (h : wpList P ops Q rest (a.put o.dst (.pointer (some ⟨w.heap.size, 0, none⟩))) (w.alloc (.cells cells t))) : wpList P ops Q (o :: rest) a w := by
 refine wpList_plain hg fun K hK => ?_
 unfold Oper.wp execOp
 simp only [ho, Sem.run_bind, hf w, Result.andThen_ok]
 exact hK _ _ h

def hof (l : List Int) : Nat → Int := fun i => l.getD i 0

end Go.Proofs.YthlohkgdmfkpeaaGreat.Nd
namespace Go.Proofs.YthlohkgdmfkpeaaGreat.Nd
open Go.RowKit

structure OpV where
 kind : Int
 key : ByteArray
 text : ByteArray
 n : Int
 node : List Int
 op : Int

def idL (node : List Int) (op : Int) : List Value := bv (hl 32 (hof node)) ++ [.int .i64 op]
def opL (x : OpV) : List Value := [.int .i64 x.kind, .string x.key, .string x.text, .int .i64 x.n] ++ idL x.node x.op
def opA (x : OpV) : Array Value := (opL x).toArray
def idA (node : List Int) (op : Int) : Array Value := (idL node op).toArray
def z32 : List Int := List.replicate 32 0
def zeroOp : OpV := ⟨0, ByteArray.empty, ByteArray.empty, 0, z32, 0⟩

theorem idL_len (c : List Int) (o : Int) : (idL c o).length = 33 := by simp [idL, bv_len, hl_len]
theorem opL_len (x : OpV) : (opL x).length = 37 := by simp [opL, idL_len]
theorem opA_size (x : OpV) : (opA x).size = 37 := by simp [opA, opL_len]
theorem idA_size (c : List Int) (o : Int) : (idA c o).size = 33 := by simp [idA, idL_len]
theorem opA_list (x : OpV) : (opA x).toList = opL x := rfl
theorem opA_sizes (x y : OpV) : (opA x).size = (opA y).size := by rw [opA_size, opA_size]
theorem idL_node (c : List Int) (o : Int) : (idL c o).take 32 = bv (hl 32 (hof c)) := by
 unfold idL; exact List.take_left' (by simp [bv_len, hl_len])
theorem idL_op (c : List Int) (o : Int) : (idL c o)[32]? = some (.int .i64 o) := by
 unfold idL
 rw [List.getElem?_append_right (by simp [bv_len, hl_len])]
 simp [bv_len, hl_len]
theorem opA_0 (x : OpV) : (opA x)[0]? = some (.int .i64 x.kind) := by simp [opA, opL]
theorem opA_1 (x : OpV) : (opA x)[1]? = some (.string x.key) := by simp [opA, opL]
theorem opA_2 (x : OpV) : (opA x)[2]? = some (.string x.text) := by simp [opA, opL]
theorem opA_3 (x : OpV) : (opA x)[3]? = some (.int .i64 x.n) := by simp [opA, opL]
theorem opA_36 (x : OpV) : (opA x)[36]? = some (.int .i64 x.op) := by
 simp only [opA, opL, List.getElem?_toArray]
 rw [List.getElem?_append_right (by simp)]
 exact idL_op _ _
theorem opL_at (x : OpV) : (opL x).drop 4 = idL x.node x.op := by simp [opL]
theorem set_0 (x : OpV) (k : Int) : (opA x).setIfInBounds 0 (.int .i64 k) = opA { x with kind := k } := by simp [opA, opL]
theorem set_1 (x : OpV) (k : ByteArray) : (opA x).setIfInBounds 1 (.string k) = opA { x with key := k } := by simp [opA, opL]
theorem set_2 (x : OpV) (k : ByteArray) : (opA x).setIfInBounds 2 (.string k) = opA { x with text := k } := by simp [opA, opL]
theorem set_3 (x : OpV) (k : Int) : (opA x).setIfInBounds 3 (.int .i64 k) = opA { x with n := k } := by simp [opA, opL]
theorem put_at (x : OpV) (c : List Int) (o : Int) : ((opA x).toList.take 4 ++ (idA c o).toList ++ (opA x).toList.drop (4 + (idA c o).size)).toArray = opA { x with node := c, op := o } := by
 rw [idA_size, opA_list, List.drop_of_length_le (by rw [opL_len]; omega)]
 simp [opA, opL, idA]
theorem bytesA_bv (f : Nat → Int) : bytesA 32 f = (bv (hl 32 f)).toArray := by
 apply Array.ext'; rw [hl_bytesA]
theorem opA_one (x : OpV) : (opA x).all (·.oneCell') = true := by
 rw [Array.all_eq_true_iff_forall_mem]
 intro v hv
 simp only [opA, opL, idL, List.mem_toArray, List.mem_append, List.mem_cons, List.not_mem_nil, or_false] at hv
 rcases hv with (rfl | rfl | rfl | rfl) | h | rfl
 ·rfl
 ·rfl
 ·rfl
 ·rfl
 ·exact bv_one _ v h
 ·rfl
theorem idA_one (c : List Int) (o : Int) : (idA c o).all (·.oneCell') = true := by
 rw [Array.all_eq_true_iff_forall_mem]
 intro v hv
 simp only [idA, idL, List.mem_toArray, List.mem_append, List.mem_cons, List.not_mem_nil, or_false] at hv
 rcases hv with h | rfl
 ·exact bv_one _ v h
 ·rfl

theorem Tryz.size119 : (Tryz.prog.info? 119).map (·.size) = some 37 := by kernel_rfl
theorem Tryz.size117 : (Tryz.prog.info? 117).map (·.size) = some 33 := by kernel_rfl
theorem Tryz.size119B (x : OpV) : (Tryz.prog.info? 119).map (·.size) = some (opA x).size := by rw [opA_size]; exact Tryz.size119
theorem Tryz.size119L (x : OpV) : (Tryz.prog.info? 119).map (·.size) = some (opL x).length := by rw [opL_len]; exact Tryz.size119
theorem Tryz.size117B (c : List Int) (o : Int) : (Tryz.prog.info? 117).map (·.size) = some (idA c o).size := by rw [idA_size]; exact Tryz.size117
theorem Tryz.size117L (c : List Int) (o : Int) : (Tryz.prog.info? 117).map (·.size) = some (idL c o).length := by rw [idL_len]; exact Tryz.size117
theorem Tryz.new119 (w : World) : (Instr.alloc 119 true (.tuple #[])).run Tryz.prog w = .ok (.pointer (some ⟨w.heap.size, 0, none⟩)) (w.alloc (.cells (opA zeroOp) 119)) := by kernel_rfl
theorem Tryz.built119 : Tryz.prog.built 119 [] = some (opA zeroOp) := by kernel_rfl
theorem Tryz.built117 : Tryz.prog.built 117 [] = some (idA z32 0) := by kernel_rfl
theorem Tryz.built36 : Tryz.prog.built 36 [] = some (bytesA 32 (hof z32)) := by kernel_rfl

def nd (p q : List Int) : Bool := (List.range 32).all fun i => hof p i == hof q i
def sm (a b : OpV) : Bool := a.kind == b.kind && (a.key == b.key && (a.text == b.text && (a.n == b.n && (nd a.node b.node && a.op == b.op))))

theorem Tryz.cells5q : Tryz.prog.cellsOf 5 = 1 := by kernel_rfl
theorem Tryz.isAgg5q (w : World) : (isAgg 5).run Tryz.prog w = .ok false w := by kernel_rfl
theorem Tryz.size5q : (Tryz.prog.info? 5).map (·.size) = some 1 := by kernel_rfl
theorem run_part5q (c : Nat → Int) (i : Nat) (hi : i < 32) (w : World) : (part 5 (bytesA 32 c) i).run Tryz.prog w = .ok (.int .u8 (c i)) w := by
 unfold part
 rw [Sem.run_bind, Tryz.isAgg5q]
 simp [Result.andThen, bytesA_get 32 c i hi]
theorem run_items2 (c e : Nat → Int) (d : Nat) (w : World) : ∀ is : List Nat, (∀ i ∈ is, i < 32) → (Op.eqItems (d + 1) 5 1 (bytesA 32 c) (bytesA 32 e) is).run Tryz.prog w = .ok (is.all fun i => c i == e i) w
 | [], _ => by simp [Op.eqItems]
 | i :: is, h => by
  have hi := h i (by simp)
  have ih := run_items2 c e d w is (fun j hj => h j (by simp [hj]))
  simp only [Op.eqItems, Sem.run_bind, Nat.mul_one, run_part5q c i hi, run_part5q e i hi, Result.andThen_ok]
  rw [run_equalIn_int (P := Tryz.prog) (w := w) d 5 .u8 .u8 (c i) (e i) Tryz.underlying5]
  by_cases hh : c i = e i
  ·simp [Result.andThen_ok, ih, hh]
  ·simp [Result.andThen_ok, hh]
theorem run_equal_arr2 (d : Nat) (c e : List Int) (w : World) : (Op.equalIn (d + 2) 36 (.agg (bytesA 32 (hof c))) (.agg (bytesA 32 (hof e)))).run Tryz.prog w = .ok (nd c e) w := by
 obtain ⟨i, hi, _⟩ := Option.map_eq_some_iff.1 Tryz.size5q
 rw [run_equalIn_array (P := Tryz.prog) w (d + 1) _ _ Tryz.underlying36 hi, Tryz.cells5q]
 exact run_items2 (hof c) (hof e) d w _ (fun j hj => List.mem_range.1 hj)
theorem run_eqlH (c e : List Int) (w : World) : (binOp .eql 36 (.agg (bytesA 32 (hof c))) (.agg (bytesA 32 (hof e)))).run Tryz.prog w = .ok (.bool (nd c e)) w := by
 rw [run_eql_struct, run_equal_arr2 9998]; rfl
theorem run_neqH (c e : List Int) (w : World) : (binOp .neq 36 (.agg (bytesA 32 (hof c))) (.agg (bytesA 32 (hof e)))).run Tryz.prog w = .ok (.bool (!nd c e)) w := by
 rw [run_neq_struct, run_equal_arr2 9998]; rfl
theorem Tryz.isAgg36q (w : World) : (isAgg 36).run Tryz.prog w = .ok true w := by kernel_rfl
theorem Tryz.isAgg117q (w : World) : (isAgg 117).run Tryz.prog w = .ok true w := by kernel_rfl
theorem Tryz.isAgg3q (w : World) : (isAgg 3).run Tryz.prog w = .ok false w := by kernel_rfl
theorem Tryz.isAgg2q (w : World) : (isAgg 2).run Tryz.prog w = .ok false w := by kernel_rfl
theorem Tryz.isAgg9q (w : World) : (isAgg 9).run Tryz.prog w = .ok false w := by kernel_rfl
theorem Tryz.sizeOf36q (w : World) : (sizeOf 36).run Tryz.prog w = .ok 32 w := by kernel_rfl
theorem Tryz.sizeOf117q (w : World) : (sizeOf 117).run Tryz.prog w = .ok 33 w := by kernel_rfl
theorem Tryz.fields117 : (Tryz.prog.fieldsOf 117).toList.map (fun f => (f.name == "_", f.type, f.offset)) = [(false, 36, 0), (false, 3, 32)] := by kernel_rfl
theorem Tryz.fields119 : (Tryz.prog.fieldsOf 119).toList.map (fun f => (f.name == "_", f.type, f.offset)) = [(false, 3, 0), (false, 9, 1), (false, 9, 2), (false, 2, 3), (false, 117, 4)] := by kernel_rfl
theorem run_part29 (c : List Int) (o : Int) (w : World) : (part 36 (idA c o) 0).run Tryz.prog w = .ok (.agg (bytesA 32 (hof c))) w := by
 unfold part
 simp only [Sem.run_bind, Tryz.isAgg36q, Result.andThen_ok, Tryz.sizeOf36q, if_true]
 rw [bytesA_bv, show (idA c o).extract 0 (0 + 32) = (bv (hl 32 (hof c))).toArray by
  apply Array.ext'
  simp only [idA, Array.toList_extract, List.extract_eq_take_drop, List.drop_zero]
  exact idL_node c o]
 rfl
theorem run_part32 (c : List Int) (o : Int) (w : World) : (part 3 (idA c o) 32).run Tryz.prog w = .ok (.int .i64 o) w := by
 unfold part
 simp only [Sem.run_bind, Tryz.isAgg3q, Result.andThen_ok]
 have : (idA c o)[32]? = some (.int .i64 o) := by simp only [idA, List.getElem?_toArray]; exact idL_op c o
 simp [this]
theorem fields_of {fs : List Field} {l : List (Bool × TypeId × Nat)} (h : fs.map (fun f => (f.name == "_", f.type, f.offset)) = l) (d : Nat) (xs ys : Array Value) (w : World) :
  (Op.eqFields d xs ys fs).run Tryz.prog w = (l.foldr (fun q k => if q.1 = false then do
   let a ← part q.2.1 xs q.2.2
   let b ← part q.2.1 ys q.2.2
   let r ← Op.equalIn d q.2.1 a b
   if (!r) = true then pure false else k
  else k) (pure true : Sem Bool)).run Tryz.prog w := by
 subst h
 congr 1
 induction fs with
 | nil => rfl
 | cons f fs ih =>
  simp only [Op.eqFields, List.map_cons, List.foldr_cons, ih]
  by_cases hf : f.name = "_" <;> simp [hf]
theorem run_equal31 (d : Nat) (c e : List Int) (o p : Int) (w : World) : (Op.equalIn (d + 3) 117 (.agg (idA c o)) (.agg (idA e p))).run Tryz.prog w = .ok (nd c e && o == p) w := by
 rw [run_equalIn_agg (P := Tryz.prog) w (d + 2) 117 _ _ (by kernel_rfl) (by kernel_rfl), fields_of Tryz.fields117]
 simp only [List.foldr_cons, List.foldr_nil, if_true, Sem.run_bind, run_part29, run_part32, Result.andThen_ok, run_equal_arr2 d, Sem.run_ite, run_equalIn_int (P := Tryz.prog) w (d + 1) 3 .i64 .i64 o p Tryz.underlying3, Sem.run_pure]
 cases nd c e <;> cases o == p <;> simp
theorem run_eql31 (c e : List Int) (o p : Int) (w : World) : (binOp .eql 117 (.agg (idA c o)) (.agg (idA e p))).run Tryz.prog w = .ok (.bool (nd c e && o == p)) w := by
 rw [run_eql_struct, run_equal31 9997]; rfl
theorem run_partA (x : OpV) (w : World) : (part 117 (opA x) 4).run Tryz.prog w = .ok (.agg (idA x.node x.op)) w := by
 unfold part
 simp only [Sem.run_bind, Tryz.isAgg117q, Result.andThen_ok, Tryz.sizeOf117q, if_true]
 rw [show (opA x).extract 4 (4 + 33) = idA x.node x.op by
  apply Array.ext'
  simp only [opA, idA, Array.toList_extract, List.extract_eq_take_drop, opL_at]
  exact List.take_of_length_le (by rw [idL_len]; omega)]
 rfl
theorem run_part1 (t : TypeId) (hs : ∀ w, (isAgg t).run Tryz.prog w = .ok false w) (cs : Array Value) (j : Nat) (v : Value) (h : cs[j]? = some v) (w : World) : (part t cs j).run Tryz.prog w = .ok v w := by
 unfold part
 simp only [Sem.run_bind, hs, Result.andThen_ok]
 simp [h]
theorem run_equal33 (x y : OpV) (w : World) : (Op.equalIn 10000 119 (.agg (opA x)) (.agg (opA y))).run Tryz.prog w = .ok (sm x y) w := by
 rw [run_equalIn_agg (P := Tryz.prog) w 9999 119 _ _ (by kernel_rfl) (by kernel_rfl), fields_of Tryz.fields119]
 simp only [List.foldr_cons, List.foldr_nil, if_true, Sem.run_bind, run_partA, run_part1 3 Tryz.isAgg3q _ 0 _ (opA_0 _), run_part1 9 Tryz.isAgg9q _ 1 _ (opA_1 _), run_part1 9 Tryz.isAgg9q _ 2 _ (opA_2 _), run_part1 2 Tryz.isAgg2q _ 3 _ (opA_3 _), Result.andThen_ok, run_equal31 9996, Sem.run_ite,
  run_equalIn_int (P := Tryz.prog) w 9998 3 .i64 .i64 _ _ Tryz.underlying3, run_equalIn_int (P := Tryz.prog) w 9998 2 .i64 .i64 _ _ Tryz.underlying2, run_equalIn_string (P := Tryz.prog) w 9998 9 _ _ Tryz.underlying9, Sem.run_pure, ← beq_toListBytes]
 unfold sm
 cases x.kind == y.kind <;> cases x.key == y.key <;> cases x.text == y.text <;> cases x.n == y.n <;> cases nd x.node y.node <;> cases x.op == y.op <;> simp
theorem run_eql33 (x y : OpV) (w : World) : (binOp .eql 119 (.agg (opA x)) (.agg (opA y))).run Tryz.prog w = .ok (.bool (sm x y)) w := by
 rw [run_eql_struct, run_equal33]; rfl
end Go.Proofs.YthlohkgdmfkpeaaGreat.Nd
namespace Go.Proofs.YthlohkgdmfkpeaaGreat.Nd
open Go.RowKit




end Go.Proofs.YthlohkgdmfkpeaaGreat.Nd
namespace Go.Proofs.YthlohkgdmfkpeaaGreat.Nd
open Go.RowKit

def Typ (w : World) (k : Nat) (T : TypeId) : Prop := ∃ cs fz, w.heap[k]? = some (.cells cs T fz)
theorem Blk.typ {w : World} {k : Nat} {T : TypeId} {cs : Array Value} (h : Blk w k T cs) : Typ w k T := ⟨cs, _, h⟩
theorem Typ.one {w : World} {k : Nat} {T T' : TypeId} (h : Typ w k T) (h' : Typ w k T') : T = T' := by
 obtain ⟨cs, fz, h⟩ := h
 obtain ⟨cs', fz', h'⟩ := h'
 rw [h] at h'; simp at h'; exact h'.2.1


end Go.Proofs.YthlohkgdmfkpeaaGreat.Nd
namespace Go.Proofs.YthlohkgdmfkpeaaGreat.Nd
open Go.RowKit

def err (q : Nat) : Value := .iface 226 (ptr q)



end Go.Proofs.YthlohkgdmfkpeaaGreat.Nd
namespace Go.Proofs.YthlohkgdmfkpeaaGreat.Nd
open Go.RowKit

theorem blk_range {w : World} {b : Nat} {T : TypeId} {cs : Array Value} (h : Blk w b T cs) : w.rangeAt b 0 cs.toList := fun j v hv => by
 rw [Nat.zero_add, h.cell]; simpa using hv
theorem results_cell1_row {P : Program} {fn : Func} {p : Tmp} {ty : TypeId} (h : fn.results = #[.cell p ty]) (tmps : Array Value) (w : World) (g : Nat) (t : TypeId) (cs : Array Value) (fr : Nat × Nat) (d : TypeDesc)
  (hp : tmps.getD p undef = .pointer (some ⟨g, 0, none⟩)) (hg : w.heap[g]? = some (.cells cs t fr))
  (hu : P.underlying ty = some d) (hd : (match d with | .struct _ | .array _ _ => true | _ => false) = true) (hi : (P.info? ty).map (·.size) = some cs.size) :
  (results fn tmps).run P w = .ok (.agg cs) w := by
 have hr := run_loadVar_row (P := P) w g t ty cs fr d hg hu hd hi
 simp only [results, h]
 simp only [Array.getD_eq_getD_getElem?] at hp
 simp [asAddr, hp, hr]


end Go.Proofs.YthlohkgdmfkpeaaGreat.Nd
namespace Go.Proofs.YthlohkgdmfkpeaaGreat.Nd
open Go.RowKit

def fnv (n : Nat) : Value := .func (.func n) #[] #[]
def fldA (i : Nat) : Array Value := if i = 0 then #[fnv 145, fnv 146, fnv 148] else if i = 1 then #[fnv 150, fnv 151, fnv 152] else if i = 2 then #[fnv 153, fnv 154, fnv 156] else #[fnv 158, fnv 159, fnv 160]
theorem fldA_size (i : Nat) : (fldA i).size = 3 := by
 unfold fldA
 split
 ·rfl
 ·split
  ·rfl
  ·split <;> rfl
theorem fldA_one (i : Nat) : (fldA i).all (·.oneCell') = true := by
 unfold fldA
 split
 ·simp [fnv, Value.oneCell']
 ·split
  ·simp [fnv, Value.oneCell']
  ·split <;> simp [fnv, Value.oneCell']
def noF : Array Value := #[.nilFunc, .nilFunc, .nilFunc]
theorem Tryz.size164 : (Tryz.prog.info? 164).map (·.size) = some 3 := by kernel_rfl
theorem Tryz.size164B (i : Nat) : (Tryz.prog.info? 164).map (·.size) = some (fldA i).size := by rw [fldA_size]; exact Tryz.size164
theorem Tryz.new164 (w : World) : (Instr.alloc 164 true (.tuple #[])).run Tryz.prog w = .ok (.pointer (some ⟨w.heap.size, 0, none⟩)) (w.alloc (.cells noF 164)) := by kernel_rfl
theorem noF_sizes (i : Nat) : noF.size = (fldA i).size := by rw [fldA_size]; rfl
theorem fld0_any (w : World) : Calls Tryz.prog 103 #[] w fun e w' => e = .returned (.agg (fldA 0)) ∧ Below w.heap.size w w' := by
 have HB := Keep.mk (Blk.new w 164 noF)
 have HW := Keep.mk (below_new w (.cells noF 164))
 go_enter Tryz.func103, Tryz.ntmps103
 go_wp2_with (first | (refine wpList_new rfl 164 rfl _ Tryz.new164 ?_) | (refine wpList_bld rfl 164 _ rfl (fldA 0) (by kernel_rfl) ?_; refine wpList_store_row rfl 164 (.tmp 0) (.tmp 1) rfl w.heap.size (fldA 0) rfl rfl 164 noF HB.out (Tryz.size164B 0) rfl (fldA_one 0) ?_))
 refine bodyPost_ret (v := .agg (fldA 0)) (results_cell1_row Tryz.results103 _ _ w.heap.size 164 _ (0, 0) _ rfl (HB.out.setRow _) Tryz.underlying164 rfl (Tryz.size164B 0)) rfl ?_
 exact ⟨rfl, below_setRow HW.out (Nat.le_refl _) _⟩
theorem fld1_any (w : World) : Calls Tryz.prog 104 #[] w fun e w' => e = .returned (.agg (fldA 1)) ∧ Below w.heap.size w w' := by
 have HB := Keep.mk (Blk.new w 164 noF)
 have HW := Keep.mk (below_new w (.cells noF 164))
 go_enter Tryz.func104, Tryz.ntmps104
 go_wp2_with (first | (refine wpList_new rfl 164 rfl _ Tryz.new164 ?_) | (refine wpList_bld rfl 164 _ rfl (fldA 1) (by kernel_rfl) ?_; refine wpList_store_row rfl 164 (.tmp 0) (.tmp 1) rfl w.heap.size (fldA 1) rfl rfl 164 noF HB.out (Tryz.size164B 1) rfl (fldA_one 1) ?_))
 refine bodyPost_ret (v := .agg (fldA 1)) (results_cell1_row Tryz.results104 _ _ w.heap.size 164 _ (0, 0) _ rfl (HB.out.setRow _) Tryz.underlying164 rfl (Tryz.size164B 1)) rfl ?_
 exact ⟨rfl, below_setRow HW.out (Nat.le_refl _) _⟩
theorem fld2_any (w : World) : Calls Tryz.prog 105 #[] w fun e w' => e = .returned (.agg (fldA 2)) ∧ Below w.heap.size w w' := by
 have HB := Keep.mk (Blk.new w 164 noF)
 have HW := Keep.mk (below_new w (.cells noF 164))
 go_enter Tryz.func105, Tryz.ntmps105
 go_wp2_with (first | (refine wpList_new rfl 164 rfl _ Tryz.new164 ?_) | (refine wpList_bld rfl 164 _ rfl (fldA 2) (by kernel_rfl) ?_; refine wpList_store_row rfl 164 (.tmp 0) (.tmp 1) rfl w.heap.size (fldA 2) rfl rfl 164 noF HB.out (Tryz.size164B 2) rfl (fldA_one 2) ?_))
 refine bodyPost_ret (v := .agg (fldA 2)) (results_cell1_row Tryz.results105 _ _ w.heap.size 164 _ (0, 0) _ rfl (HB.out.setRow _) Tryz.underlying164 rfl (Tryz.size164B 2)) rfl ?_
 exact ⟨rfl, below_setRow HW.out (Nat.le_refl _) _⟩
theorem fld3_any (w : World) : Calls Tryz.prog 106 #[] w fun e w' => e = .returned (.agg (fldA 3)) ∧ Below w.heap.size w w' := by
 have HB := Keep.mk (Blk.new w 164 noF)
 have HW := Keep.mk (below_new w (.cells noF 164))
 go_enter Tryz.func106, Tryz.ntmps106
 go_wp2_with (first | (refine wpList_new rfl 164 rfl _ Tryz.new164 ?_) | (refine wpList_bld rfl 164 _ rfl (fldA 3) (by kernel_rfl) ?_; refine wpList_store_row rfl 164 (.tmp 0) (.tmp 1) rfl w.heap.size (fldA 3) rfl rfl 164 noF HB.out (Tryz.size164B 3) rfl (fldA_one 3) ?_))
 refine bodyPost_ret (v := .agg (fldA 3)) (results_cell1_row Tryz.results106 _ _ w.heap.size 164 _ (0, 0) _ rfl (HB.out.setRow _) Tryz.underlying164 rfl (Tryz.size164B 3)) rfl ?_
 exact ⟨rfl, below_setRow HW.out (Nat.le_refl _) _⟩

def MapIs (w : World) (m : Nat) (ps : List (Int × Value)) : Prop :=
 ∃ es clock, w.heap[m]? = some (.map es clock) ∧ es.toList.map (fun e => (e.key, e.val)) = ps.map fun p => (Value.int .i64 p.1, p.2)
theorem MapIs.lt {w : World} {m : Nat} {ps : List (Int × Value)} (h : MapIs w m ps) : m < w.heap.size := by
 obtain ⟨es, clock, h1, _⟩ := h
 exact (Array.getElem?_eq_some_iff.1 h1).1
theorem MapIs.grown {w w' : World} {m : Nat} {ps : List (Int × Value)} {S : Nat → Prop} (h : MapIs w m ps) (hg : Grown w w' S) (hs : ¬ S m) : MapIs w' m ps := by
 have hlt := h.lt
 obtain ⟨es, clock, h1, h2⟩ := h
 exact ⟨es, clock, by rw [hg.block m hlt hs]; exact h1, h2⟩
theorem find_now (k : Int) : ∀ (es : List MapEntry) (ps : List (Int × Value)) (i : Nat), es.map (fun e => (e.key, e.val)) = ps.map (fun p => (Value.int .i64 p.1, p.2)) →
  ∃ r, Instr.findNow (.int .i64) (.int .i64 k) es i = some r ∧ r.map (·.2) = (ps.find? fun p => k == p.1).map (·.2)
 | [], [], i, _ => ⟨none, rfl, rfl⟩
 | [], p :: ps, i, h => by simp at h
 | e :: es, [], i, h => by simp at h
 | e :: es, p :: ps, i, h => by
  simp only [List.map_cons, List.cons.injEq, Prod.mk.injEq] at h
  obtain ⟨⟨h1, h2⟩, h3⟩ := h
  obtain ⟨r, h4, h5⟩ := find_now k es ps (i + 1) h3
  simp only [Instr.findNow, h1, Instr.sameNow, if_true]
  by_cases hk : k = p.1
  ·subst hk
   simp only [beq_self_eq_true]
   exact ⟨_, rfl, by simp [h2]⟩
  ·have hk' : (k == p.1) = false := by simpa using hk
   simp only [hk', List.find?_cons]
   exact ⟨r, h4, h5⟩
theorem run_findKey (k : Int) (es : List MapEntry) (ps : List (Int × Value)) (h : es.map (fun e => (e.key, e.val)) = ps.map (fun p => (Value.int .i64 p.1, p.2))) (w : World) :
  ∃ r, (Instr.findKey 3 (.int .i64 k) es).run Tryz.prog w = .ok r w ∧ r.map (·.2) = (ps.find? fun p => k == p.1).map (·.2) := by
 obtain ⟨r, h1, h2⟩ := find_now k es ps 0 h
 refine ⟨r, ?_, h2⟩
 unfold Instr.findKey
 simp only [Sem.run_bind, run_underlying Tryz.underlying3, Result.andThen_ok, h1, Sem.run_pure]
theorem check_key (b : Bool) (k : Int) (w : World) : (Instr.checkKey b 10000 3 (.int .i64 k)).run Tryz.prog w = .ok () w := by
 unfold Instr.checkKey
 simp only [Sem.run_bind, run_underlying Tryz.underlying3, Result.andThen_ok, Sem.run_pure]
theorem run_insert (w : World) (m : Nat) (ps : List (Int × Value)) (k : Int) (v : Value) (h : MapIs w m ps) (hk : ∀ p ∈ ps, p.1 ≠ k) :
  ∃ w', (Instr.mapUpdate 143 (.map (some m)) (.int .i64 k) v).run Tryz.prog w = .ok () w' ∧ MapIs w' m (ps ++ [(k, v)]) ∧ Grown w w' (fun j => j = m) ∧ w'.heap.size = w.heap.size := by
 have hlt := h.lt
 obtain ⟨es, clock, h1, h2⟩ := h
 obtain ⟨r, h3, h4⟩ := run_findKey k es.toList ps h2 w
 have hn : (ps.find? fun p => k == p.1) = none := by
  rw [List.find?_eq_none]
  intro p hp
  have := hk p hp
  simpa using fun e => this e.symm
 rw [hn] at h4
 obtain rfl : r = none := by cases r <;> simp_all
 refine ⟨ChangeMaps.setBlock w m (.map (es.push ⟨.int .i64 k, v, clock⟩) (clock + 1)), ?_, ⟨_, _, ChangeMaps.heap_setBlock_same h1 _, ?_⟩, ?_, ?_⟩
 ·unfold Instr.mapUpdate
  simp only [Sem.run_bind, run_underlying Tryz.underlying143, Result.andThen_ok, getObj, Sem.run, h1, check_key, h3]
  simp [setObj, Sem.run, h1, ChangeMaps.setBlock]
 ·simp [h2]
 ·refine ⟨rfl, rfl, rfl, by simp [ChangeMaps.setBlock], fun j hj hne => ?_⟩
  simp only [ChangeMaps.setBlock]
  rw [Array.getElem?_setIfInBounds_ne (fun e => hne e.symm)]
 ·simp [ChangeMaps.setBlock]
theorem wpList_ins {ops : Array Oper} {rest : List Oper} {o : Oper} {a : Act} {w : World} {Q : Exit → Act → World → Prop} (hg : o.guard = none) (x y z : Operand) (ho : o.op = .insert 143 x y z)
  (m : Nat) (ps : List (Int × Value)) (k : Int) (v : Value) (hx : a.eval x = .map (some m)) (hy : a.eval y = .int .i64 k) (hz : a.eval z = v) (h : MapIs w m ps) (hk : ∀ p ∈ ps, p.1 ≠ k)
  (hc : ∀ w', MapIs w' m (ps ++ [(k, v)]) → Grown w w' (fun j => j = m) → w'.heap.size = w.heap.size → wpList Tryz.prog ops Q rest (a.put o.dst undef) w') : wpList Tryz.prog ops Q (o :: rest) a w := by
 refine wpList_plain hg fun K hK => ?_
 obtain ⟨w', h1, h2, h3, h4⟩ := run_insert w m ps k v h hk
 unfold Oper.wp execOp
 simp only [ho, hx, hy, hz, Sem.run_bind, h1, Result.andThen_ok]
 exact hK _ _ (hc w' h2 h3 h4)
theorem run_look (w : World) (m : Nat) (ps : List (Int × Value)) (k : Int) (h : MapIs w m ps) (ok : Bool) :
  (Instr.lookup 143 (.map (some m)) (.int .i64 k) ok).run Tryz.prog w = .ok (if ok = true then .tuple #[((ps.find? fun p => k == p.1).map (·.2)).getD (.slice none 0 0), .bool (ps.find? fun p => k == p.1).isSome] else ((ps.find? fun p => k == p.1).map (·.2)).getD (.slice none 0 0)) w := by
 obtain ⟨es, clock, h1, h2⟩ := h
 obtain ⟨r, h3, h4⟩ := run_findKey k es.toList ps h2 w
 have hz : ∀ w : World, (zeroValue 146).run Tryz.prog w = .ok (.slice none 0 0) w := by intro w; kernel_rfl
 unfold Instr.lookup
 simp only [Sem.run_bind, run_underlying Tryz.underlying143, Result.andThen_ok, getObj, Sem.run, h1, check_key]
 rw [← h4]
 have h5 : (ps.find? fun p => k == p.1).isSome = r.isSome := by
  have := congrArg Option.isSome h4
  simpa using this.symm
 rw [h5]
 cases r with
 | none => rw [Sem.run_pure, Result.andThen_ok, h3]; simp [hz]
 | some q => rw [Sem.run_pure, Result.andThen_ok, h3]; simp

def hasI (k : Int) : List Nat := if k = 1 then [0, 1] else if k = 2 then [0] else if k = 3 then [0, 1] else if k = 4 then [0, 1] else if k = 5 then [0] else if k = 6 then [0, 2] else if k = 7 then [0] else if k = 8 then [0, 1, 3] else if k = 9 then [0, 3] else []
def flatF (is : List Nat) : Array Value := (is.flatMap fun i => (fldA i).toList).toArray
def FieldsAt (w : World) (v : Value) (is : List Nat) : Prop := (v = .slice none 0 0 ∧ is = []) ∨ ∃ g, v = .slice (some ⟨g, 0, none⟩) is.length is.length ∧ Blk w g 164 (flatF is)
theorem FieldsAt.grown {w w' : World} {v : Value} {is : List Nat} {S : Nat → Prop} (h : FieldsAt w v is) (hg : Grown w w' S) (hs : ∀ g, Blk w g 164 (flatF is) → ¬ S g) : FieldsAt w' v is := by
 rcases h with h | ⟨g, h1, h2⟩
 ·exact .inl h
 ·exact .inr ⟨g, h1, hg.blk h2 (hs g h2)⟩
structure TabAt (w : World) (m : Nat) : Prop where
 ex : ∃ V : Int → Value, MapIs w m ([1, 2, 3, 4, 5, 6, 7, 8, 9].map fun k => (k, V k)) ∧ ∀ k ∈ ([1, 2, 3, 4, 5, 6, 7, 8, 9] : List Int), FieldsAt w (V k) (hasI k)
theorem TabAt.grown {w w' : World} {m : Nat} {S : Nat → Prop} (h : TabAt w m) (hg : Grown w w' S) (hm : ¬ S m) (hs : ∀ g cs, Blk w g 164 cs → ¬ S g) : TabAt w' m := by
 obtain ⟨V, h1, h2⟩ := h.ex
 exact ⟨V, h1.grown hg hm, fun k hk => (h2 k hk).grown hg fun g hb => hs g _ hb⟩
theorem TabAt.below {w w' : World} {m : Nat} (h : TabAt w m) (hb : Below w.heap.size w w') : TabAt w' m :=
 h.grown (Grown.below (S := fun _ => False) hb) (fun h => h) fun _ _ _ h => h
theorem hasI_none (k : Int) (h : k ∉ ([1, 2, 3, 4, 5, 6, 7, 8, 9] : List Int)) : hasI k = [] := by
 simp only [List.mem_cons, List.not_mem_nil, or_false, not_or] at h
 simp [hasI, h]
theorem hasI_some (k : Int) (h : k ∈ ([1, 2, 3, 4, 5, 6, 7, 8, 9] : List Int)) : hasI k ≠ [] := by
 simp only [List.mem_cons, List.not_mem_nil, or_false] at h
 rcases h with rfl | rfl | rfl | rfl | rfl | rfl | rfl | rfl | rfl <;> simp [hasI]
theorem find_tab (V : Int → Value) (k : Int) : (([1, 2, 3, 4, 5, 6, 7, 8, 9] : List Int).map fun k => (k, V k)).find? (fun p => k == p.1) = if k ∈ ([1, 2, 3, 4, 5, 6, 7, 8, 9] : List Int) then some (k, V k) else none := by
 rw [List.find?_map]
 by_cases h : k ∈ ([1, 2, 3, 4, 5, 6, 7, 8, 9] : List Int)
 ·rw [if_pos h]
  have : (([1, 2, 3, 4, 5, 6, 7, 8, 9] : List Int).find? ((fun p : Int × Value => k == p.1) ∘ fun k => (k, V k))) = some k := by
   simp only [List.mem_cons, List.not_mem_nil, or_false] at h
   rcases h with rfl | rfl | rfl | rfl | rfl | rfl | rfl | rfl | rfl <;> rfl
  rw [this]; rfl
 ·rw [if_neg h]
  have : (([1, 2, 3, 4, 5, 6, 7, 8, 9] : List Int).find? ((fun p : Int × Value => k == p.1) ∘ fun k => (k, V k))) = none := by
   rw [List.find?_eq_none]
   intro x hx hk
   have e : k = x := by simpa using hk
   exact h (e ▸ hx)
  rw [this]; rfl
theorem bs1 (w : World) : (Instr.buildSlice 146 2 #[(0, .agg (fldA 0)), (1, .agg (fldA 1))]).run Tryz.prog w = .ok (.slice (some ⟨w.heap.size, 0, none⟩) 2 2) (w.alloc (.cells (flatF (hasI 1)) 164)) := by kernel_rfl
theorem bs2 (w : World) : (Instr.buildSlice 146 1 #[(0, .agg (fldA 0))]).run Tryz.prog w = .ok (.slice (some ⟨w.heap.size, 0, none⟩) 1 1) (w.alloc (.cells (flatF (hasI 2)) 164)) := by kernel_rfl
theorem bs3 (w : World) : (Instr.buildSlice 146 2 #[(0, .agg (fldA 0)), (1, .agg (fldA 1))]).run Tryz.prog w = .ok (.slice (some ⟨w.heap.size, 0, none⟩) 2 2) (w.alloc (.cells (flatF (hasI 3)) 164)) := by kernel_rfl
theorem bs4 (w : World) : (Instr.buildSlice 146 2 #[(0, .agg (fldA 0)), (1, .agg (fldA 1))]).run Tryz.prog w = .ok (.slice (some ⟨w.heap.size, 0, none⟩) 2 2) (w.alloc (.cells (flatF (hasI 4)) 164)) := by kernel_rfl
theorem bs5 (w : World) : (Instr.buildSlice 146 1 #[(0, .agg (fldA 0))]).run Tryz.prog w = .ok (.slice (some ⟨w.heap.size, 0, none⟩) 1 1) (w.alloc (.cells (flatF (hasI 5)) 164)) := by kernel_rfl
theorem bs6 (w : World) : (Instr.buildSlice 146 2 #[(0, .agg (fldA 0)), (1, .agg (fldA 2))]).run Tryz.prog w = .ok (.slice (some ⟨w.heap.size, 0, none⟩) 2 2) (w.alloc (.cells (flatF (hasI 6)) 164)) := by kernel_rfl
theorem bs7 (w : World) : (Instr.buildSlice 146 1 #[(0, .agg (fldA 0))]).run Tryz.prog w = .ok (.slice (some ⟨w.heap.size, 0, none⟩) 1 1) (w.alloc (.cells (flatF (hasI 7)) 164)) := by kernel_rfl
theorem bs8 (w : World) : (Instr.buildSlice 146 3 #[(0, .agg (fldA 0)), (1, .agg (fldA 1)), (2, .agg (fldA 3))]).run Tryz.prog w = .ok (.slice (some ⟨w.heap.size, 0, none⟩) 3 3) (w.alloc (.cells (flatF (hasI 8)) 164)) := by kernel_rfl
theorem bs9 (w : World) : (Instr.buildSlice 146 2 #[(0, .agg (fldA 0)), (1, .agg (fldA 3))]).run Tryz.prog w = .ok (.slice (some ⟨w.heap.size, 0, none⟩) 2 2) (w.alloc (.cells (flatF (hasI 9)) 164)) := by kernel_rfl

structure TS (w0 : World) (b : Nat) (V : Int → Value) (ks : List Int) (w : World) : Prop where
 fld : ∀ i, i < 4 → Blk w (b + i) 164 (fldA i)
 map : MapIs w (b + 4) (ks.map fun k => (k, V k))
 has : ∀ k ∈ ks, FieldsAt w (V k) (hasI k)
 lo : w0.heap.size ≤ b
 below : Below w0.heap.size w0 w
theorem TS.alloc {w0 : World} {b : Nat} {V : Int → Value} {ks : List Int} {w : World} (h : TS w0 b V ks w) (o : Obj) : TS w0 b V ks (w.alloc o) where
 fld i hi := (h.fld i hi).alloc o
 map := h.map.grown (Grown.alloc w o fun _ => False) (fun h => h)
 has k hk := (h.has k hk).grown (Grown.alloc w o fun _ => False) fun _ _ h => h
 lo := h.lo
 below := h.below.trans (Below.mono (below_new w o) h.below.size)
theorem map_blk {w : World} {m g : Nat} {T : TypeId} {cs : Array Value} {ps : List (Int × Value)} (h : MapIs w m ps) (hg : Blk w g T cs) : g ≠ m := by
 rintro rfl
 obtain ⟨es, clock, h1, _⟩ := h
 unfold Blk at hg
 rw [hg] at h1
 cases h1
theorem TS.put {w0 : World} {b : Nat} {V : Int → Value} {ks : List Int} {w w' : World} (h : TS w0 b V ks w) (k : Int) (v : Value) (hk : k ∉ ks) (hv : FieldsAt w v (hasI k)) (hm : MapIs w' (b + 4) ((ks.map fun k => (k, V k)) ++ [(k, v)])) (hg : Grown w w' fun j => j = b + 4) :
  TS w0 b (fun j => if j = k then v else V j) (ks ++ [k]) w' where
 fld i hi := hg.blk (h.fld i hi) (map_blk h.map (h.fld i hi))
 map := by
  have e : (ks ++ [k]).map (fun j => (j, (if j = k then v else V j))) = (ks.map fun k => (k, V k)) ++ [(k, v)] := by
   simp only [List.map_append, List.map_cons, List.map_nil, if_true]
   congr 1
   apply List.map_congr_left
   intro j hj
   have hjk : j ≠ k := fun e => hk (e ▸ hj)
   rw [if_neg hjk]
  rw [e]; exact hm
 has j hj := by
  rcases List.mem_append.1 hj with hj | hj
  ·have : j ≠ k := fun e => hk (e ▸ hj)
   rw [if_neg this]
   exact (h.has j hj).grown hg fun g hb e => map_blk h.map hb e
  ·simp at hj
   subst hj
   rw [if_pos rfl]
   exact hv.grown hg fun g hb e => map_blk h.map hb e
 lo := h.lo
 below := ⟨hg.os.trans h.below.os, hg.tape.trans h.below.tape, hg.output.trans h.below.output, Nat.le_trans h.below.size hg.size, fun i hi => by
  rw [hg.block i (Nat.lt_of_lt_of_le hi h.below.size) (by have := h.lo; omega)]; exact h.below.block i hi⟩
theorem fields_row (w : World) (k : Int) (n : Nat) (hn : (hasI k).length = n) : FieldsAt (w.alloc (.cells (flatF (hasI k)) 164)) (.slice (some ⟨w.heap.size, 0, none⟩) n n) (hasI k) :=
 .inr ⟨w.heap.size, by rw [hn], Blk.new w 164 _⟩
theorem TS.start {w0 w : World} (b : Nat) (hb : b + 4 = w.heap.size) (hf : ∀ i, i < 4 → Blk w (b + i) 164 (fldA i)) (lo : w0.heap.size ≤ b) (hB : Below w0.heap.size w0 w) : TS w0 b (fun _ => .nilFunc) [] (w.alloc (.map #[] 0)) where
 fld i hi := (hf i hi).alloc _
 map := ⟨#[], 0, by rw [hb]; exact heap_alloc_new w _, rfl⟩
 has k hk := by simp at hk
 lo := lo
 below := hB.trans (Below.mono (below_new w _) hB.size)
theorem TS.fin {w0 : World} {b : Nat} {V : Int → Value} {w : World} (h : TS w0 b V [1, 2, 3, 4, 5, 6, 7, 8, 9] w) : TabAt w (b + 4) := ⟨V, h.map, h.has⟩
theorem Tryz.newmap (w : World) : (Instr.makeMap 143 none).run Tryz.prog w = .ok (.map (some w.heap.size)) (w.alloc (.map #[] 0)) := by kernel_rfl
end Go.Proofs.YthlohkgdmfkpeaaGreat.Nd
namespace Go.Proofs.YthlohkgdmfkpeaaGreat.Nd
open Go.RowKit

theorem wpList_mkmap {ops : Array Oper} {rest : List Oper} {o : Oper} {a : Act} {w : World} {Q : Exit → Act → World → Prop} (hg : o.guard = none) (ho : o.op = .makeMap 143 none)
  (h : wpList Tryz.prog ops Q rest (a.put o.dst (.map (some w.heap.size))) (w.alloc (.map #[] 0))) : wpList Tryz.prog ops Q (o :: rest) a w := by
 refine wpList_plain hg fun K hK => ?_
 unfold Oper.wp execOp
 have := Tryz.newmap w
 simp only [ho, Option.map_none, Sem.run_bind, this, Result.andThen_ok]
 exact hK _ _ h
theorem wpList_bs {P : Program} {ops : Array Oper} {rest : List Oper} {o : Oper} {a : Act} {w : World} {Q : Exit → Act → World → Prop} (hg : o.guard = none) (t : TypeId) (n : Nat) (parts : Array (Nat × Operand)) (ho : o.op = .buildSlice t n parts)
  (vs : Array (Nat × Value)) (hv : (parts.map fun (i, x) => (i, a.eval x)) = vs) (v : Value) (w' : World) (hrun : (Instr.buildSlice t n vs).run P w = .ok v w')
  (h : wpList P ops Q rest (a.put o.dst v) w') : wpList P ops Q (o :: rest) a w := by
 refine wpList_plain hg fun K hK => ?_
 unfold Oper.wp execOp
 simp only [ho, hv, Sem.run_bind, hrun, Result.andThen_ok]
 exact hK _ _ h
theorem not_in (V : Int → Value) (ks : List Int) (k : Int) (h : k ∉ ks) : ∀ p ∈ ks.map (fun k => (k, V k)), p.1 ≠ k := by
 intro p hp e
 obtain ⟨j, hj, rfl⟩ := List.mem_map.1 hp
 exact h (e ▸ hj)
theorem four_new (w : World) : (∀ i, i < 4 → Blk ((((w.alloc (.cells noF 164)).alloc (.cells noF 164)).alloc (.cells noF 164)).alloc (.cells noF 164)) (w.heap.size + i) 164 noF) ∧ ((((w.alloc (.cells noF 164)).alloc (.cells noF 164)).alloc (.cells noF 164)).alloc (.cells noF 164)).heap.size = w.heap.size + 4 ∧ Below w.heap.size w ((((w.alloc (.cells noF 164)).alloc (.cells noF 164)).alloc (.cells noF 164)).alloc (.cells noF 164)) := by
 refine ⟨fun i hi => ?_, by simp, (((below_new w _).alloc (by simp) _).alloc (by simp; omega) _).alloc (by simp; omega) _⟩
 have h0 := (((Blk.new w 164 noF).alloc (.cells noF 164)).alloc (.cells noF 164)).alloc (.cells noF 164)
 have h1 := ((Blk.new (w.alloc (.cells noF 164)) 164 noF).alloc (.cells noF 164)).alloc (.cells noF 164)
 have h2 := (Blk.new ((w.alloc (.cells noF 164)).alloc (.cells noF 164)) 164 noF).alloc (.cells noF 164)
 have h3 := Blk.new (((w.alloc (.cells noF 164)).alloc (.cells noF 164)).alloc (.cells noF 164)) 164 noF
 simp only [World.size_alloc] at h1 h2 h3
 match i, hi with
 | 0, _ => exact h0
 | 1, _ => exact h1
 | 2, _ => exact h2
 | 3, _ => exact h3
set_option maxRecDepth 8000 in
set_option maxHeartbeats 2000000 in
theorem tab_any (w : World) : Calls Tryz.prog 91 #[] w fun e w' => ∃ m, e = .returned (.map (some m)) ∧ TabAt w' m ∧ w.heap.size ≤ m ∧ Below w.heap.size w w' := by
 go_enter Tryz.func91, Tryz.ntmps91
 go_wp2_with fail
 refine (fld0_any w).mono ?_
 rintro e w1 ⟨rfl, h1⟩
 have H1 := Keep.mk h1
 clear h1
 go_wp2_with fail
 refine (fld1_any w1).mono ?_
 rintro e w2 ⟨rfl, h2⟩
 have H2 := Keep.mk (H1.out.trans (h2.mono H1.out.size))
 clear h2 H1
 go_wp2_with fail
 refine (fld2_any w2).mono ?_
 rintro e w3 ⟨rfl, h3⟩
 have H3 := Keep.mk (H2.out.trans (h3.mono H2.out.size))
 clear h3 H2
 go_wp2_with fail
 refine (fld3_any w3).mono ?_
 rintro e w4 ⟨rfl, h4⟩
 have H4 := Keep.mk (H3.out.trans (h4.mono H3.out.size))
 clear h4 H3
 clear w1 w2 w3
 go_wp2_with (first | (refine wpList_new rfl 164 rfl _ Tryz.new164 ?_; refine wpList_new rfl 164 rfl _ Tryz.new164 ?_; refine wpList_new rfl 164 rfl _ Tryz.new164 ?_; refine wpList_new rfl 164 rfl _ Tryz.new164 ?_; refine Hid.out ?_))
 refine hid_in ?_
 have HF := Keep.mk (four_new w4)
 have HLo := Keep.mk H4.out.size
 generalize (((w4.alloc (.cells noF 164)).alloc (.cells noF 164)).alloc (.cells noF 164)).alloc (.cells noF 164) = wA at *
 refine wpList_store_row rfl 164 (.tmp 1) (.tmp 5) rfl w4.heap.size (fldA 0) rfl rfl 164 noF (HF.out.1 0 (by omega)) (Tryz.size164B 0) (noF_sizes 0).symm (fldA_one 0) ?_
 refine wpList_store_row rfl 164 (.tmp 2) (.tmp 6) rfl (w4.heap.size + 1) (fldA 1) rfl rfl 164 noF ((HF.out.1 1 (by omega)).setRow_ne (by omega) _) (Tryz.size164B 1) (noF_sizes 1).symm (fldA_one 1) ?_
 refine wpList_store_row rfl 164 (.tmp 3) (.tmp 7) rfl (w4.heap.size + 2) (fldA 2) rfl rfl 164 noF (((HF.out.1 2 (by omega)).setRow_ne (by omega) _).setRow_ne (by omega) _) (Tryz.size164B 2) (noF_sizes 2).symm (fldA_one 2) ?_
 refine wpList_store_row rfl 164 (.tmp 4) (.tmp 8) rfl (w4.heap.size + 3) (fldA 3) rfl rfl 164 noF ((((HF.out.1 3 (by omega)).setRow_ne (by omega) _).setRow_ne (by omega) _).setRow_ne (by omega) _) (Tryz.size164B 3) (noF_sizes 3).symm (fldA_one 3) ?_
 have HG : Keep (∀ i, i < 4 → Blk ((((wA.setRow w4.heap.size (fldA 0)).setRow (w4.heap.size + 1) (fldA 1)).setRow (w4.heap.size + 2) (fldA 2)).setRow (w4.heap.size + 3) (fldA 3)) (w4.heap.size + i) 164 (fldA i)) := ⟨fun i hi => by
  match i, hi with
  | 0, _ => exact ((((HF.out.1 0 (by omega)).setRow _).setRow_ne (by omega) _).setRow_ne (by omega) _).setRow_ne (by omega) _
  | 1, _ => exact ((((HF.out.1 1 (by omega)).setRow_ne (by omega) _).setRow _).setRow_ne (by omega) _).setRow_ne (by omega) _
  | 2, _ => exact ((((HF.out.1 2 (by omega)).setRow_ne (by omega) _).setRow_ne (by omega) _).setRow _).setRow_ne (by omega) _
  | 3, _ => exact ((((HF.out.1 3 (by omega)).setRow_ne (by omega) _).setRow_ne (by omega) _).setRow_ne (by omega) _).setRow _⟩
 have HS : Keep (((((wA.setRow w4.heap.size (fldA 0)).setRow (w4.heap.size + 1) (fldA 1)).setRow (w4.heap.size + 2) (fldA 2)).setRow (w4.heap.size + 3) (fldA 3)).heap.size = w4.heap.size + 4) := ⟨by simp [HF.out.2.1]⟩
 have HB : Keep (Below w.heap.size w ((((wA.setRow w4.heap.size (fldA 0)).setRow (w4.heap.size + 1) (fldA 1)).setRow (w4.heap.size + 2) (fldA 2)).setRow (w4.heap.size + 3) (fldA 3))) :=
  ⟨below_setRow (below_setRow (below_setRow (below_setRow (H4.out.trans (HF.out.2.2.mono HLo.out)) HLo.out _) (by have := HLo.out; omega) _) (by have := HLo.out; omega) _) (by have := HLo.out; omega) _⟩
 generalize (((wA.setRow w4.heap.size (fldA 0)).setRow (w4.heap.size + 1) (fldA 1)).setRow (w4.heap.size + 2) (fldA 2)).setRow (w4.heap.size + 3) (fldA 3) = w5 at *
 obtain ⟨b, hb⟩ : ∃ b, b = w4.heap.size := ⟨_, rfl⟩
 have HT := Keep.mk (TS.start b (by rw [hb]; exact HS.out.symm) (by rw [hb]; exact HG.out) (by rw [hb]; exact HLo.out) HB.out)
 have Hsz : Keep (w5.heap.size = b + 4) := ⟨by rw [hb]; exact HS.out⟩
 rw [← hb]
 clear HG HB HF H4 HLo HS hb wA w4
 go_wp2_with (first | (refine wpList_mkmap rfl rfl ?_; refine Hid.out ?_))
 refine hid_in ?_
 rw [Hsz.out]
 generalize w5.alloc (.map #[] 0) = w6 at *
 clear Hsz w5
 refine wpList_load_row rfl 164 (.tmp 1) rfl b rfl 164 (fldA 0) (0, 0) _ (HT.out.fld 0 (by omega)) Tryz.underlying164 rfl (Tryz.size164B 0) ?_
 refine wpList_load_row rfl 164 (.tmp 2) rfl (b + 1) rfl 164 (fldA 1) (0, 0) _ (HT.out.fld 1 (by omega)) Tryz.underlying164 rfl (Tryz.size164B 1) ?_
 simp only [Act.put, List.setIfInBounds_toArray, List.set_cons_zero, List.set_cons_succ]
 refine wpList_bs rfl 146 2 _ rfl #[(0, .agg (fldA 0)), (1, .agg (fldA 1))] (by simp [Act.eval]) _ _ (bs1 _) ?_
 refine wpList_ins rfl (.tmp 9) _ (.tmp 12) rfl (b + 4) _ 1 _ rfl rfl rfl (HT.out.alloc (.cells (flatF (hasI 1)) 164)).map (not_in _ _ _ (by decide)) ?_
 intro w7 hm hg hs
 have HT1 := Keep.mk ((HT.out.alloc (.cells (flatF (hasI 1)) 164)).put 1 _ (by decide) (fields_row w6 1 2 rfl) hm hg)
 clear hm hg hs HT
 rename Keep (TS _ _ _ _ w7) => HT
 refine wpList_load_row rfl 164 (.tmp 1) rfl b rfl 164 (fldA 0) (0, 0) _ (HT.out.fld 0 (by omega)) Tryz.underlying164 rfl (Tryz.size164B 0) ?_
 simp only [Act.put, List.setIfInBounds_toArray, List.set_cons_zero, List.set_cons_succ]
 refine wpList_bs rfl 146 1 _ rfl #[(0, .agg (fldA 0))] (by simp [Act.eval]) _ _ (bs2 _) ?_
 refine wpList_ins rfl (.tmp 9) _ (.tmp 14) rfl (b + 4) _ 2 _ rfl rfl rfl (HT.out.alloc (.cells (flatF (hasI 2)) 164)).map (not_in _ _ _ (by decide)) ?_
 intro w8 hm hg hs
 have HT2 := Keep.mk ((HT.out.alloc (.cells (flatF (hasI 2)) 164)).put 2 _ (by decide) (fields_row w7 2 1 rfl) hm hg)
 clear hm hg hs HT
 rename Keep (TS _ _ _ _ w8) => HT
 refine wpList_load_row rfl 164 (.tmp 1) rfl b rfl 164 (fldA 0) (0, 0) _ (HT.out.fld 0 (by omega)) Tryz.underlying164 rfl (Tryz.size164B 0) ?_
 refine wpList_load_row rfl 164 (.tmp 2) rfl (b + 1) rfl 164 (fldA 1) (0, 0) _ (HT.out.fld 1 (by omega)) Tryz.underlying164 rfl (Tryz.size164B 1) ?_
 simp only [Act.put, List.setIfInBounds_toArray, List.set_cons_zero, List.set_cons_succ]
 refine wpList_bs rfl 146 2 _ rfl #[(0, .agg (fldA 0)), (1, .agg (fldA 1))] (by simp [Act.eval]) _ _ (bs3 _) ?_
 refine wpList_ins rfl (.tmp 9) _ (.tmp 17) rfl (b + 4) _ 3 _ rfl rfl rfl (HT.out.alloc (.cells (flatF (hasI 3)) 164)).map (not_in _ _ _ (by decide)) ?_
 intro w9 hm hg hs
 have HT3 := Keep.mk ((HT.out.alloc (.cells (flatF (hasI 3)) 164)).put 3 _ (by decide) (fields_row w8 3 2 rfl) hm hg)
 clear hm hg hs HT
 rename Keep (TS _ _ _ _ w9) => HT
 refine wpList_load_row rfl 164 (.tmp 1) rfl b rfl 164 (fldA 0) (0, 0) _ (HT.out.fld 0 (by omega)) Tryz.underlying164 rfl (Tryz.size164B 0) ?_
 refine wpList_load_row rfl 164 (.tmp 2) rfl (b + 1) rfl 164 (fldA 1) (0, 0) _ (HT.out.fld 1 (by omega)) Tryz.underlying164 rfl (Tryz.size164B 1) ?_
 simp only [Act.put, List.setIfInBounds_toArray, List.set_cons_zero, List.set_cons_succ]
 refine wpList_bs rfl 146 2 _ rfl #[(0, .agg (fldA 0)), (1, .agg (fldA 1))] (by simp [Act.eval]) _ _ (bs4 _) ?_
 refine wpList_ins rfl (.tmp 9) _ (.tmp 20) rfl (b + 4) _ 4 _ rfl rfl rfl (HT.out.alloc (.cells (flatF (hasI 4)) 164)).map (not_in _ _ _ (by decide)) ?_
 intro w10 hm hg hs
 have HT4 := Keep.mk ((HT.out.alloc (.cells (flatF (hasI 4)) 164)).put 4 _ (by decide) (fields_row w9 4 2 rfl) hm hg)
 clear hm hg hs HT
 rename Keep (TS _ _ _ _ w10) => HT
 refine wpList_load_row rfl 164 (.tmp 1) rfl b rfl 164 (fldA 0) (0, 0) _ (HT.out.fld 0 (by omega)) Tryz.underlying164 rfl (Tryz.size164B 0) ?_
 simp only [Act.put, List.setIfInBounds_toArray, List.set_cons_zero, List.set_cons_succ]
 refine wpList_bs rfl 146 1 _ rfl #[(0, .agg (fldA 0))] (by simp [Act.eval]) _ _ (bs5 _) ?_
 refine wpList_ins rfl (.tmp 9) _ (.tmp 22) rfl (b + 4) _ 5 _ rfl rfl rfl (HT.out.alloc (.cells (flatF (hasI 5)) 164)).map (not_in _ _ _ (by decide)) ?_
 intro w11 hm hg hs
 have HT5 := Keep.mk ((HT.out.alloc (.cells (flatF (hasI 5)) 164)).put 5 _ (by decide) (fields_row w10 5 1 rfl) hm hg)
 clear hm hg hs HT
 rename Keep (TS _ _ _ _ w11) => HT
 refine wpList_load_row rfl 164 (.tmp 1) rfl b rfl 164 (fldA 0) (0, 0) _ (HT.out.fld 0 (by omega)) Tryz.underlying164 rfl (Tryz.size164B 0) ?_
 refine wpList_load_row rfl 164 (.tmp 3) rfl (b + 2) rfl 164 (fldA 2) (0, 0) _ (HT.out.fld 2 (by omega)) Tryz.underlying164 rfl (Tryz.size164B 2) ?_
 simp only [Act.put, List.setIfInBounds_toArray, List.set_cons_zero, List.set_cons_succ]
 refine wpList_bs rfl 146 2 _ rfl #[(0, .agg (fldA 0)), (1, .agg (fldA 2))] (by simp [Act.eval]) _ _ (bs6 _) ?_
 refine wpList_ins rfl (.tmp 9) _ (.tmp 25) rfl (b + 4) _ 6 _ rfl rfl rfl (HT.out.alloc (.cells (flatF (hasI 6)) 164)).map (not_in _ _ _ (by decide)) ?_
 intro w12 hm hg hs
 have HT6 := Keep.mk ((HT.out.alloc (.cells (flatF (hasI 6)) 164)).put 6 _ (by decide) (fields_row w11 6 2 rfl) hm hg)
 clear hm hg hs HT
 rename Keep (TS _ _ _ _ w12) => HT
 refine wpList_load_row rfl 164 (.tmp 1) rfl b rfl 164 (fldA 0) (0, 0) _ (HT.out.fld 0 (by omega)) Tryz.underlying164 rfl (Tryz.size164B 0) ?_
 simp only [Act.put, List.setIfInBounds_toArray, List.set_cons_zero, List.set_cons_succ]
 refine wpList_bs rfl 146 1 _ rfl #[(0, .agg (fldA 0))] (by simp [Act.eval]) _ _ (bs7 _) ?_
 refine wpList_ins rfl (.tmp 9) _ (.tmp 27) rfl (b + 4) _ 7 _ rfl rfl rfl (HT.out.alloc (.cells (flatF (hasI 7)) 164)).map (not_in _ _ _ (by decide)) ?_
 intro w13 hm hg hs
 have HT7 := Keep.mk ((HT.out.alloc (.cells (flatF (hasI 7)) 164)).put 7 _ (by decide) (fields_row w12 7 1 rfl) hm hg)
 clear hm hg hs HT
 rename Keep (TS _ _ _ _ w13) => HT
 refine wpList_load_row rfl 164 (.tmp 1) rfl b rfl 164 (fldA 0) (0, 0) _ (HT.out.fld 0 (by omega)) Tryz.underlying164 rfl (Tryz.size164B 0) ?_
 refine wpList_load_row rfl 164 (.tmp 2) rfl (b + 1) rfl 164 (fldA 1) (0, 0) _ (HT.out.fld 1 (by omega)) Tryz.underlying164 rfl (Tryz.size164B 1) ?_
 refine wpList_load_row rfl 164 (.tmp 4) rfl (b + 3) rfl 164 (fldA 3) (0, 0) _ (HT.out.fld 3 (by omega)) Tryz.underlying164 rfl (Tryz.size164B 3) ?_
 simp only [Act.put, List.setIfInBounds_toArray, List.set_cons_zero, List.set_cons_succ]
 refine wpList_bs rfl 146 3 _ rfl #[(0, .agg (fldA 0)), (1, .agg (fldA 1)), (2, .agg (fldA 3))] (by simp [Act.eval]) _ _ (bs8 _) ?_
 refine wpList_ins rfl (.tmp 9) _ (.tmp 31) rfl (b + 4) _ 8 _ rfl rfl rfl (HT.out.alloc (.cells (flatF (hasI 8)) 164)).map (not_in _ _ _ (by decide)) ?_
 intro w14 hm hg hs
 have HT8 := Keep.mk ((HT.out.alloc (.cells (flatF (hasI 8)) 164)).put 8 _ (by decide) (fields_row w13 8 3 rfl) hm hg)
 clear hm hg hs HT
 rename Keep (TS _ _ _ _ w14) => HT
 refine wpList_load_row rfl 164 (.tmp 1) rfl b rfl 164 (fldA 0) (0, 0) _ (HT.out.fld 0 (by omega)) Tryz.underlying164 rfl (Tryz.size164B 0) ?_
 refine wpList_load_row rfl 164 (.tmp 4) rfl (b + 3) rfl 164 (fldA 3) (0, 0) _ (HT.out.fld 3 (by omega)) Tryz.underlying164 rfl (Tryz.size164B 3) ?_
 simp only [Act.put, List.setIfInBounds_toArray, List.set_cons_zero, List.set_cons_succ]
 refine wpList_bs rfl 146 2 _ rfl #[(0, .agg (fldA 0)), (1, .agg (fldA 3))] (by simp [Act.eval]) _ _ (bs9 _) ?_
 refine wpList_ins rfl (.tmp 9) _ (.tmp 34) rfl (b + 4) _ 9 _ rfl rfl rfl (HT.out.alloc (.cells (flatF (hasI 9)) 164)).map (not_in _ _ _ (by decide)) ?_
 intro w15 hm hg hs
 have HT9 := Keep.mk ((HT.out.alloc (.cells (flatF (hasI 9)) 164)).put 9 _ (by decide) (fields_row w14 9 2 rfl) hm hg)
 clear hm hg hs HT
 rename Keep (TS _ _ _ _ w15) => HT
 go_wp2
 go_ret
 exact ⟨b + 4, rfl, HT.out.fin, by have := HT.out.lo; omega, HT.out.below⟩
end Go.Proofs.YthlohkgdmfkpeaaGreat.Nd
namespace Go.Proofs.YthlohkgdmfkpeaaGreat.Nd
open Go.RowKit

def OpsAt (w : World) (v : Value) (l : List OpV) : Prop :=
 (∃ a c, v = .slice a 0 c ∧ l = []) ∨ ∃ b off cap, v = .slice (some ⟨b, off, none⟩) l.length cap ∧ l.length ≤ cap ∧ ∀ i x, l[i]? = some x → w.rangeAt b (off + i * 37) (opL x)
theorem OpsAt.form {w : World} {v : Value} {l : List OpV} (h : OpsAt w v l) : ∃ a c, v = .slice a l.length c := by
 rcases h with ⟨a, c, rfl, rfl⟩ | ⟨b, off, cap, rfl, _⟩
 ·exact ⟨_, _, rfl⟩
 ·exact ⟨_, _, rfl⟩
theorem range_lt {w : World} {b o : Nat} {cs : List Value} (h : w.rangeAt b o cs) (h0 : 0 < cs.length) : b < w.heap.size := by
 have := h 0 cs[0] (by simp)
 exact cell_lt this
theorem range_grown {w w' : World} {b o : Nat} {cs : List Value} {S : Nat → Prop} (h : w.rangeAt b o cs) (hg : Grown w w' S) (hs : ¬ S b) : w'.rangeAt b o cs := fun j v hv => hg.cell (h j v hv) hs
theorem OpsAt.grown {w w' : World} {v : Value} {l : List OpV} {S : Nat → Prop} (h : OpsAt w v l) (hg : Grown w w' S) (hs : ∀ b, v.ownBlock = some b → b < w.heap.size → ¬ S b) : OpsAt w' v l := by
 rcases h with h | ⟨b, off, cap, rfl, h2, h3⟩
 ·exact .inl h
 ·refine .inr ⟨b, off, cap, rfl, h2, fun i x hx => range_grown (h3 i x hx) hg (hs b rfl ?_)⟩
  exact range_lt (h3 i x hx) (by rw [opL_len]; omega)
theorem OpsAt.below {w w' : World} {v : Value} {l : List OpV} (h : OpsAt w v l) (hb : Below w.heap.size w w') : OpsAt w' v l :=
 h.grown (Grown.below (S := fun _ => False) hb) fun _ _ _ h => h
theorem OpsAt.at {w : World} {a : Option Addr} {n c : Nat} {l : List OpV} (h : OpsAt w (.slice a n c) l) {t : Nat} (ht : t < l.length) :
  ∃ b off, a = some ⟨b, off, none⟩ ∧ w.rangeAt b (off + t * 37) (opL (l.getD t zeroOp)) := by
 rcases h with ⟨_, _, _, rfl⟩ | ⟨b, off, cap, e, h2, h3⟩
 ·simp at ht
 ·injection e with e1 e2 e3
  refine ⟨b, off, e1, h3 t _ ?_⟩
  simp [List.getD_eq_getElem?_getD, ht]
theorem run_eql31L (c e : List Int) (o p : Int) (w : World) : (binOp .eql 117 (.agg (idL c o).toArray) (.agg (idA e p))).run Tryz.prog w = .ok (.bool (nd c e && o == p)) w := run_eql31 c e o p w
theorem run_neqHL (c e : List Int) (w : World) : (binOp .neq 36 (.agg (bytesA 32 (hof c)).toList.toArray) (.agg (bytesA 32 (hof e)))).run Tryz.prog w = .ok (.bool (!nd c e)) w := by rw [Array.toArray_toList]; exact run_neqH c e w
theorem rng_load (x : OpV) : (opL x).toArray = opA x := rfl

def mayAt (l : List OpV) (x : OpV) : Bool :=
 if (nd x.node z32 && x.op == 0) = true then x.kind == 8
 else if nd x.node z32 = false then decide (1 ≤ x.op) && decide (x.op ≤ 1024)
 else if x.op < 1 ∨ (l.length : Int) < x.op then false
 else (l.getD (x.op - 1).toNat zeroOp).kind == 8 && (l.getD (x.op - 1).toNat zeroOp).key == x.key

structure OpOk (x : OpV) : Prop where
 node : x.node.length = 32
 byts : Byts x.node
 k1 : -9223372036854775808 ≤ x.kind
 k2 : x.kind ≤ 9223372036854775807
 n1 : -9223372036854775808 ≤ x.n
 n2 : x.n ≤ 9223372036854775807
 o1 : -9223372036854775808 ≤ x.op
 o2 : x.op ≤ 9223372036854775807
 key : x.key.size ≤ 140737488355328
 text : x.text.size ≤ 140737488355328

set_option maxRecDepth 8000 in
set_option maxHeartbeats 1000000 in
theorem may_any (x : OpV) (v : Value) (l : List OpV) (w : World) (hx : OpOk x) (hl : OpsAt w v l) (hb : l.length ≤ 4398046511104) :
  Calls Tryz.prog 109 #[.agg (opA x), v] w fun e w' => e = .returned (.bool (mayAt l x)) ∧ Below w.heap.size w w' := by
 obtain ⟨va, vc, rfl⟩ := hl.form
 have HL := Keep.mk hl
 have HB := Keep.mk (Blk.new w 119 (opA x))
 have HW := Keep.mk (below_new w (.cells (opA x) 119))
 have HR : Keep ((w.alloc (.cells (opA x) 119)).rangeAt w.heap.size 4 (idL x.node x.op)) := ⟨fun j v hv => by
  rw [HB.out.cell]; unfold opA; rw [List.getElem?_toArray, ← List.getElem?_drop, opL_at]; exact hv⟩
 have HN : Keep ((w.alloc (.cells (opA x) 119)).rangeAt w.heap.size 4 (bytesA 32 (hof x.node)).toList) := ⟨fun j v hv => by
  rw [hl_bytesA, ← idL_node x.node x.op] at hv
  rw [List.getElem?_take] at hv
  split at hv
  ·exact HR.out j v hv
  ·cases hv⟩
 have c0 : (w.alloc (.cells (opA x) 119)).cell? ⟨w.heap.size, 0, none⟩ = some (.int .i64 x.kind) := by rw [HB.out.cell, opA_0]
 have c1 : (w.alloc (.cells (opA x) 119)).cell? ⟨w.heap.size, 1, none⟩ = some (.string x.key) := by rw [HB.out.cell, opA_1]
 have c36 : (w.alloc (.cells (opA x) 119)).cell? ⟨w.heap.size, 36, none⟩ = some (.int .i64 x.op) := by rw [HB.out.cell, opA_36]
 obtain ⟨R, hR⟩ : ∃ R, R = mayAt l x := ⟨_, rfl⟩
 rw [← hR]
 unfold mayAt at hR
 have HM := Keep.mk hR
 clear hR
 have h1 := run_eql31L x.node z32 x.op 0
 have h2 := run_neqHL x.node z32
 have hNs : Keep ((Tryz.prog.info? 36).map (·.size) = some (bytesA 32 (hof x.node)).toList.length) := ⟨by rw [Array.length_toList]; exact Tryz.size36B _⟩
 obtain ⟨E, hE⟩ : ∃ E, E = nd x.node z32 := ⟨_, rfl⟩
 rw [← hE] at h1 h2 HM
 obtain ⟨cN, hN⟩ : ∃ c, Keep (c = (bytesA 32 (hof x.node)).toList) := ⟨_, ⟨rfl⟩⟩
 rw [← hN.out] at h2 HN hNs
 obtain ⟨cI, hI⟩ : ∃ c, Keep (c = idL x.node x.op) := ⟨_, ⟨rfl⟩⟩
 have hIs : Keep ((Tryz.prog.info? 117).map (·.size) = some cI.length) := ⟨by rw [hI.out]; exact Tryz.size117L _ _⟩
 rw [← hI.out] at h1 HR
 obtain ⟨aZ, hZ⟩ : ∃ c, Keep (c = idA z32 0) := ⟨_, ⟨rfl⟩⟩
 have hbZ : Keep (Tryz.prog.built 117 [] = some aZ) := ⟨by rw [hZ.out]; exact Tryz.built117⟩
 rw [← hZ.out] at h1
 obtain ⟨aY, hY⟩ : ∃ c, Keep (c = bytesA 32 (hof z32)) := ⟨_, ⟨rfl⟩⟩
 have hbY : Keep (Tryz.prog.built 36 [] = some aY) := ⟨by rw [hY.out]; exact Tryz.built36⟩
 rw [← hY.out] at h2
 have HX := Keep.mk hx
 have Hlb := Keep.mk hb
 have ho1 := hx.o1
 have ho2 := hx.o2
 obtain ⟨w1, hw1⟩ : ∃ w1, Keep (w.alloc (.cells (opA x) 119) = w1) := ⟨_, ⟨rfl⟩⟩
 rw [hw1.out] at HB HW HR HN c0 c1 c36
 clear hx hl hE hb
 have LD31 := Keep.mk HR.out
 go_enter Tryz.func109, Tryz.ntmps109
 by_cases hA : (E && x.op == 0) = true
 ·have hA2 : E = true ∧ x.op = 0 := by simpa using hA
  rw [if_pos hA] at HM
  rw [hA] at h1
  go_wp2_with (first | (refine wpList_boxA rfl 119 (.tmp 0) rfl (opA x) rfl ?_; rw [hw1.out]) | (refine wpList_load_mid rfl 117 (.tmp 7) rfl w.heap.size 4 rfl cI _ HR.out Tryz.underlying117 rfl hIs.out ?_; refine wpList_bld rfl 117 _ rfl aZ (by simpa using hbZ.out) ?_))
  go_ret
  exact ⟨by rw [HM.out]; rfl, HW.out⟩
 ·rw [if_neg hA] at HM
  rw [show (E && x.op == 0) = false by simpa using hA] at h1
  clear hA
  cases E with
  | false =>
   rw [if_pos rfl] at HM
   by_cases g1 : 1 ≤ x.op
   ·by_cases g2 : x.op ≤ 1024
    ·go_wp2_with (first | (refine wpList_boxA rfl 119 (.tmp 0) rfl (opA x) rfl ?_; rw [hw1.out]) | (refine wpList_load_mid rfl 117 (.tmp 7) rfl w.heap.size 4 rfl cI _ HR.out Tryz.underlying117 rfl hIs.out ?_; refine wpList_bld rfl 117 _ rfl aZ (by simpa using hbZ.out) ?_) | (refine wpList_load_mid rfl 36 (.tmp 18) rfl w.heap.size 4 rfl cN _ HN.out Tryz.underlying36 rfl hNs.out ?_; refine wpList_bld rfl 36 _ rfl aY (by simpa using hbY.out) ?_))
     go_ret
     exact ⟨by rw [HM.out, decide_eq_true g1, decide_eq_true g2]; rfl, HW.out⟩
    ·go_wp2_with (first | (refine wpList_boxA rfl 119 (.tmp 0) rfl (opA x) rfl ?_; rw [hw1.out]) | (refine wpList_load_mid rfl 117 (.tmp 7) rfl w.heap.size 4 rfl cI _ HR.out Tryz.underlying117 rfl hIs.out ?_; refine wpList_bld rfl 117 _ rfl aZ (by simpa using hbZ.out) ?_) | (refine wpList_load_mid rfl 36 (.tmp 18) rfl w.heap.size 4 rfl cN _ HN.out Tryz.underlying36 rfl hNs.out ?_; refine wpList_bld rfl 36 _ rfl aY (by simpa using hbY.out) ?_))
     go_ret
     exact ⟨by rw [HM.out, decide_eq_true g1, decide_eq_false (show ¬ x.op ≤ 1024 by omega)]; rfl, HW.out⟩
   ·go_wp2_with (first | (refine wpList_boxA rfl 119 (.tmp 0) rfl (opA x) rfl ?_; rw [hw1.out]) | (refine wpList_load_mid rfl 117 (.tmp 7) rfl w.heap.size 4 rfl cI _ HR.out Tryz.underlying117 rfl hIs.out ?_; refine wpList_bld rfl 117 _ rfl aZ (by simpa using hbZ.out) ?_) | (refine wpList_load_mid rfl 36 (.tmp 18) rfl w.heap.size 4 rfl cN _ HN.out Tryz.underlying36 rfl hNs.out ?_; refine wpList_bld rfl 36 _ rfl aY (by simpa using hbY.out) ?_))
    go_ret
    exact ⟨by rw [HM.out, decide_eq_false (show ¬ 1 ≤ x.op by omega)]; rfl, HW.out⟩
  | true =>
   rw [if_neg (by simp)] at HM
   by_cases g1 : x.op < 1
   ·rw [if_pos (.inl g1)] at HM
    go_wp2_with (first | (refine wpList_boxA rfl 119 (.tmp 0) rfl (opA x) rfl ?_; rw [hw1.out]) | (refine wpList_load_mid rfl 117 (.tmp 7) rfl w.heap.size 4 rfl cI _ HR.out Tryz.underlying117 rfl hIs.out ?_; refine wpList_bld rfl 117 _ rfl aZ (by simpa using hbZ.out) ?_) | (refine wpList_load_mid rfl 36 (.tmp 18) rfl w.heap.size 4 rfl cN _ HN.out Tryz.underlying36 rfl hNs.out ?_; refine wpList_bld rfl 36 _ rfl aY (by simpa using hbY.out) ?_))
    go_ret
    exact ⟨by rw [HM.out]; rfl, HW.out⟩
   ·by_cases g2 : (l.length : Int) < x.op
    ·rw [if_pos (.inr g2)] at HM
     go_wp2_with (first | (refine wpList_boxA rfl 119 (.tmp 0) rfl (opA x) rfl ?_; rw [hw1.out]) | (refine wpList_load_mid rfl 117 (.tmp 7) rfl w.heap.size 4 rfl cI _ HR.out Tryz.underlying117 rfl hIs.out ?_; refine wpList_bld rfl 117 _ rfl aZ (by simpa using hbZ.out) ?_) | (refine wpList_load_mid rfl 36 (.tmp 18) rfl w.heap.size 4 rfl cN _ HN.out Tryz.underlying36 rfl hNs.out ?_; refine wpList_bld rfl 36 _ rfl aY (by simpa using hbY.out) ?_))
     go_ret
     exact ⟨by rw [HM.out]; rfl, HW.out⟩
    ·rw [if_neg (by simp [g1, g2])] at HM
     obtain ⟨t, ht⟩ : ∃ t : Nat, x.op = (t : Int) + 1 := ⟨(x.op - 1).toNat, by omega⟩
     have htl : t < l.length := by omega
     obtain ⟨b, off, rfl, hrt⟩ := (HL.out.below HW.out).at htl
     rw [ht, show ((t : Int) + 1 - 1).toNat = t by omega] at HM
     have hi : (t : Int) + 1 - 1 = (t : Int) := by omega
     obtain ⟨it, hit⟩ : ∃ it, it = l.getD t zeroOp := ⟨_, rfl⟩
     rw [← hit] at hrt HM
     have HT := Keep.mk hrt
     have HS : Keep (Blk (w1.alloc (.cells (opA zeroOp) 119)) w1.heap.size 119 (opA zeroOp)) := ⟨Blk.new w1 119 _⟩
     have hw2 : w.heap.size < w1.heap.size := HB.out.lt
     have hg2 : (l.length : Int) ≤ 4398046511104 := by have := Hlb.out; omega
     have htn : ((t : Int) + 1 - 1).toNat = t := by omega
     rw [ht] at c36 g1 g2 ho1 ho2
     clear hit hrt
     go_wp2_with (first | (refine wpList_boxA rfl 119 (.tmp 0) rfl (opA x) rfl ?_; rw [hw1.out]) | (refine wpList_load_mid rfl 117 (.tmp 7) rfl w.heap.size 4 rfl cI _ HR.out Tryz.underlying117 rfl hIs.out ?_; refine wpList_bld rfl 117 _ rfl aZ (by simpa using hbZ.out) ?_) | (refine wpList_load_mid rfl 36 (.tmp 18) rfl w.heap.size 4 rfl cN _ HN.out Tryz.underlying36 rfl hNs.out ?_; refine wpList_bld rfl 36 _ rfl aY (by simpa using hbY.out) ?_) | (refine wpList_load_mid rfl 119 (.tmp 39) rfl b (off + t * 37) rfl (opL it) _ HT.out Tryz.underlying119 rfl (Tryz.size119L it) ?_; refine wpList_new rfl 119 rfl _ Tryz.new119 ?_; refine wpList_store_row rfl 119 (.tmp 6) (.tmp 40) rfl w1.heap.size (opA it) rfl rfl 119 (opA zeroOp) HS.out (Tryz.size119B it) (opA_sizes _ _) (opA_one it) ?_; refine Hid.out ?_))
     refine hid_in ?_
     have HI := Keep.mk (HS.out.setRow (opA it))
     have HX2 := Keep.mk ((HB.out.alloc (.cells (opA zeroOp) 119)).setRow_ne (b' := w1.heap.size) (by omega) (opA it))
     have HW2 := Keep.mk (below_setRow (HW.out.alloc HW.out.size (.cells (opA zeroOp) 119)) HW.out.size (opA it) (b := w1.heap.size))
     generalize (w1.alloc (.cells (opA zeroOp) 119)).setRow w1.heap.size (opA it) = w2 at *
     have d0 : w2.cell? ⟨w1.heap.size, 0, none⟩ = some (.int .i64 it.kind) := by rw [HI.out.cell, opA_0]
     have d1 : w2.cell? ⟨w1.heap.size, 1, none⟩ = some (.string it.key) := by rw [HI.out.cell, opA_1]
     have e1 : w2.cell? ⟨w.heap.size, 1, none⟩ = some (.string x.key) := by rw [HX2.out.cell, opA_1]
     clear h1 h2 c0 c1 c36
     by_cases k8 : it.kind = 8
     ·go_wp2
      go_ret
      exact ⟨by rw [HM.out, k8]; simp; exact (beq_toListBytes _ _).symm, HW2.out⟩
     ·go_wp2
      go_ret
      exact ⟨by rw [HM.out, show (it.kind == 8) = false by simpa using k8]; rfl, HW2.out⟩
end Go.Proofs.YthlohkgdmfkpeaaGreat.Nd
namespace Go.Proofs.YthlohkgdmfkpeaaGreat.Nd
open Go.RowKit

theorem wp_val {P : Program} {Q : Exit → Act → World → Prop} {o : Oper} {a : Act} {w : World} {K : Act → World → Prop} (v : Value) (hrun : (execOp a.eval o).run P w = .ok (.value v) w) (h : K (a.put o.dst v) w) : o.wp P a w K Q := by
 unfold Oper.wp
 rw [hrun]
 exact h
theorem yieldsIf_slice {P : Program} {ops : Array Oper} {S : World → Prop} {op : Oper} {a : Act} (hw : Region.wanted op (yielded ops a.tmps) = true) (t : TypeId) (x hi : Operand) (ho : op.op = .slice t x none (some hi) none)
  (vx vh vs : Value) (hx : a.eval x = vx) (hh : a.eval hi = vh) (hr : ∀ w : World, (Instr.sliceAt t vx none (some vh) none).run P w = .ok vs w) : YieldsIf P ops S op vs a :=
 .inl ⟨hw, fun w _ => by
  unfold execOp
  simp only [ho, hx, hh, Option.map_some, Option.map_none, Sem.run_bind, hr w, Result.andThen_ok, Sem.run_pure]⟩

end Go.Proofs.YthlohkgdmfkpeaaGreat.Nd
namespace Go.Proofs.YthlohkgdmfkpeaaGreat.Nd
open Go.RowKit

theorem wpList_wanted {P : Program} {ops : Array Oper} {rest : List Oper} {o : Oper} {a : Act} {w : World} {Q : Exit → Act → World → Prop} (hw : Region.wanted o (yielded ops a.tmps) = true)
  (h : ∀ K : Act → World → Prop, (∀ a w, wpList P ops Q rest a w → K a w) → o.wp P a w K Q) : wpList P ops Q (o :: rest) a w :=
 wpList_step fun K hK => by rw [if_pos hw]; exact h K hK

theorem wp_bldG {P : Program} {o : Oper} {a : Act} {w : World} {K : Act → World → Prop} {Q : Exit → Act → World → Prop} (t : TypeId) (parts : Array (Nat × Operand)) (ho : o.op = .build t parts)
  (cells : Array Value) (hf : P.built t (parts.map fun (i, x) => (i, a.eval x)).toList = some cells) (h : K (a.put o.dst (.agg cells)) w) : o.wp P a w K Q :=
 wp_build t parts ho (by rw [hf]; rfl) (by rw [hf]; exact h)

structure WL (P : Program) (ops : Array Oper) (Q : Exit → Act → World → Prop) (l : List Oper) (a : Act) (w : World) : Prop where
 out : wpList P ops Q l a w
theorem WL.skip {P : Program} {ops : Array Oper} {rest : List Oper} {o : Oper} {a : Act} {w : World} {Q : Exit → Act → World → Prop} (hw : Region.wanted o (yielded ops a.tmps) = false)
  (h : WL P ops Q rest (a.put o.dst undef) w) : WL P ops Q (o :: rest) a w :=
 ⟨wpList_step fun K hK => by rw [if_neg (by rw [hw]; simp)]; exact hK _ _ h.out⟩
theorem WL.val {P : Program} {ops : Array Oper} {rest : List Oper} {o : Oper} {a : Act} {w : World} {Q : Exit → Act → World → Prop} (hw : Region.wanted o (yielded ops a.tmps) = true) (v : Value)
  (hrun : (execOp a.eval o).run P w = .ok (.value v) w) (h : WL P ops Q rest (a.put o.dst v) w) : WL P ops Q (o :: rest) a w :=
 ⟨wpList_wanted hw fun _ hK => wp_val v hrun (hK _ _ h.out)⟩
theorem WL.nil {P : Program} {ops : Array Oper} {a : Act} {w : World} {Q : Exit → Act → World → Prop} (h : Q .normal a w) : WL P ops Q [] a w := ⟨h⟩
theorem pqA {α : Type} (l : List α) (i : Nat) (a : α) : l.toArray.setIfInBounds i a = (l.set i a).toArray := List.setIfInBounds_toArray ..
theorem pqB {α : Type} (a b : α) (l : List α) : (a :: l).set 0 b = b :: l := List.set_cons_zero ..
theorem pqC {α : Type} (a b : α) (l : List α) (n : Nat) : (a :: l).set (n + 1) b = a :: l.set n b := List.set_cons_succ ..
theorem VlS {P : Program} {ops : Array Oper} {rest : List Oper} {o : Oper} {a a' : Act} {w : World} {Q : Exit → Act → World → Prop} (v : Value) (h : WL P ops Q rest a' w) (hw : Region.wanted o (yielded ops a.tmps) = true := by kernel_rfl) (hrun : (execOp a.eval o).run P w = .ok (.value v) w := by go_simp) (ha : a.put o.dst v = a' := by simp only [Act.put, pqA, pqB, pqC]; exact rfl) : WL P ops Q (o :: rest) a w := WL.val hw v hrun (by rw [ha]; exact h)
theorem SkS {P : Program} {ops : Array Oper} {rest : List Oper} {o : Oper} {a a' : Act} {w : World} {Q : Exit → Act → World → Prop} (h : WL P ops Q rest a' w) (hw : Region.wanted o (yielded ops a.tmps) = false := by kernel_rfl) (ha : a.put o.dst undef = a' := by simp only [Act.put, pqA, pqB, pqC]; exact rfl) : WL P ops Q (o :: rest) a w := WL.skip hw (by rw [ha]; exact h)
theorem tkS {P : Program} {md : Region.Mode} {ops : Array Oper} {S : World → Prop} {Q : Exit → Act → World → Prop} {i : Nat} {oi : Oper} {v : Value} {fuel : Nat} {listed : Array Bool} {a a' : Act} {w : World} (hi : ops[i]? = some oi) (hy : YieldsIf P ops S oi v a) (hS : S w) (h : wpAnyH P md ops Q S fuel (listed.setIfInBounds i true) a' w) (hs : Region.noSelect ops = true := by kernel_rfl) (hf : Region.free md ops listed i = true := by kernel_rfl) (hr : (Region.ready md ops listed).contains i = true := by kernel_rfl) (hQ : ∀ c a w, Q (.panic c) (a.put oi.dst v) w → Q (.panic c) a w := by exact fun _ _ _ h => h) (ha : a.put oi.dst v = a' := by simp only [Act.put, pqA, pqB, pqC]; exact rfl) : wpAnyH P md ops Q S (fuel + 1) listed a w := wpAnyH_take hi hs hf hr hQ hy hS (by rw [ha]; exact h)
theorem VlN {P : Program} {ops : Array Oper} {rest : List Oper} {o : Oper} {a : Act} {w : World} {Q : Exit → Act → World → Prop} (v : Value) (h : WL P ops Q rest (a.put o.dst v) w) (hw : Region.wanted o (yielded ops a.tmps) = true := by kernel_rfl) (hrun : (execOp a.eval o).run P w = .ok (.value v) w := by go_simp) : WL P ops Q (o :: rest) a w := WL.val hw v hrun h
theorem SkN {P : Program} {ops : Array Oper} {rest : List Oper} {o : Oper} {a : Act} {w : World} {Q : Exit → Act → World → Prop} (h : WL P ops Q rest (a.put o.dst undef) w) (hw : Region.wanted o (yielded ops a.tmps) = false := by kernel_rfl) : WL P ops Q (o :: rest) a w := WL.skip hw h
theorem tkN {P : Program} {md : Region.Mode} {ops : Array Oper} {S : World → Prop} {Q : Exit → Act → World → Prop} {i : Nat} {oi : Oper} {v : Value} {fuel : Nat} {listed : Array Bool} {a : Act} {w : World} (hi : ops[i]? = some oi) (hy : YieldsIf P ops S oi v a) (hS : S w) (h : wpAnyH P md ops Q S fuel (listed.setIfInBounds i true) (a.put oi.dst v) w) (hs : Region.noSelect ops = true := by kernel_rfl) (hf : Region.free md ops listed i = true := by kernel_rfl) (hr : (Region.ready md ops listed).contains i = true := by kernel_rfl) (hQ : ∀ c a w, Q (.panic c) (a.put oi.dst v) w → Q (.panic c) a w := by exact fun _ _ _ h => h) : wpAnyH P md ops Q S (fuel + 1) listed a w := wpAnyH_take hi hs hf hr hQ hy hS h
theorem VbF {P : Program} {ops : Array Oper} {rest : List Oper} {o : Oper} {a a' : Act} {w : World} {Q : Exit → Act → World → Prop} (h : WL P ops Q rest a' w) (hw : Region.wanted o (yielded ops a.tmps) = true := by kernel_rfl) (hrun : (execOp a.eval o).run P w = .ok (.value (.bool false)) w := by go_simp) (ha : a.put o.dst (.bool false) = a' := by simp only [Act.put, pqA, pqB, pqC]; exact rfl) : WL P ops Q (o :: rest) a w := VlS (.bool false) h hw hrun ha
theorem VbT {P : Program} {ops : Array Oper} {rest : List Oper} {o : Oper} {a a' : Act} {w : World} {Q : Exit → Act → World → Prop} (h : WL P ops Q rest a' w) (hw : Region.wanted o (yielded ops a.tmps) = true := by kernel_rfl) (hrun : (execOp a.eval o).run P w = .ok (.value (.bool true)) w := by go_simp) (ha : a.put o.dst (.bool true) = a' := by simp only [Act.put, pqA, pqB, pqC]; exact rfl) : WL P ops Q (o :: rest) a w := VlS (.bool true) h hw hrun ha
theorem TkC {P : Program} {md : Region.Mode} {ops : Array Oper} {S : World → Prop} {Q : Exit → Act → World → Prop} {i : Nat} {oi : Oper} {v : Value} {fuel : Nat} {listed : Array Bool} {a a' : Act} {w : World} (hi : ops[i]? = some oi) (hS : S w) (h : wpAnyH P md ops Q S fuel (listed.setIfInBounds i true) a' w) (hy : YieldsIf P ops S oi v a := by exact Or.inl ⟨by rfl, fun w hS => by clear hS; go_simp⟩) (hs : Region.noSelect ops = true := by kernel_rfl) (hf : Region.free md ops listed i = true := by kernel_rfl) (hr : (Region.ready md ops listed).contains i = true := by kernel_rfl) (hQ : ∀ c a w, Q (.panic c) (a.put oi.dst v) w → Q (.panic c) a w := by exact fun _ _ _ h => h) (ha : a.put oi.dst v = a' := by simp only [Act.put, pqA, pqB, pqC]; exact rfl) : wpAnyH P md ops Q S (fuel + 1) listed a w := tkS hi hy hS h hs hf hr hQ ha
theorem TkG {P : Program} {md : Region.Mode} {ops : Array Oper} {S : World → Prop} {Q : Exit → Act → World → Prop} {i : Nat} {oi : Oper} {v : Value} {fuel : Nat} {listed : Array Bool} {a a' : Act} {w : World} (hi : ops[i]? = some oi) (hS : S w) (h : wpAnyH P md ops Q S fuel (listed.setIfInBounds i true) a' w) (hy : YieldsIf P ops S oi v a := by exact Or.inl ⟨by rfl, fun w hS => by go_simp⟩) (hs : Region.noSelect ops = true := by kernel_rfl) (hf : Region.free md ops listed i = true := by kernel_rfl) (hr : (Region.ready md ops listed).contains i = true := by kernel_rfl) (hQ : ∀ c a w, Q (.panic c) (a.put oi.dst v) w → Q (.panic c) a w := by exact fun _ _ _ h => h) (ha : a.put oi.dst v = a' := by simp only [Act.put, pqA, pqB, pqC]; exact rfl) : wpAnyH P md ops Q S (fuel + 1) listed a w := tkS hi hy hS h hs hf hr hQ ha
theorem rgn {P : Program} {ops : Array Oper} {a : Act} {w : World} {Q : Exit → Act → World → Prop} {id : Nat} (h : WL P ops Q ops.toList a w) : (Code.region id ops false).wp P Q a w := wp_region_list h.out
theorem WL.mid {P : Program} {ops : Array Oper} {rest : List Oper} {op : Oper} {a : Act} {w : World} {Q : Exit → Act → World → Prop} (hw : Region.wanted op (yielded ops a.tmps) = true) (ty : TypeId) (x : Operand) (ho : op.op = .load ty x)
  (b o : Nat) (hx : a.eval x = .pointer (some ⟨b, o, none⟩)) (cs : List Value) (d : TypeDesc) (hc : w.rangeAt b o cs)
  (hu : P.underlying ty = some d) (hd : d.isRow = true) (hi : (P.info? ty).map (·.size) = some cs.length)
  (h : WL P ops Q rest (a.put op.dst (.agg cs.toArray)) w) : WL P ops Q (op :: rest) a w :=
 ⟨wpList_wanted hw fun _ hK => wp_load_mid ty x ho b o hx cs d hc hu hd hi (hK _ _ h.out)⟩
theorem WL.call {P : Program} {ops : Array Oper} {rest : List Oper} {o : Oper} {a : Act} {w : World} {Q : Exit → Act → World → Prop} (hw : Region.wanted o (yielded ops a.tmps) = true)
  (h : ∀ K : Act → World → Prop, (∀ a w, WL P ops Q rest a w → K a w) → o.wp P a w K Q) : WL P ops Q (o :: rest) a w :=
 ⟨wpList_wanted hw fun K hK => h K fun a w h => hK a w h.out⟩
def cellV (k : Int) : Int := if k = 1 then 1 else if k = 2 then 1 else if k = 3 then 2 else if k = 4 then 2 else if k = 5 then 2 else if k = 6 then 3 else if k = 7 then 3 else if k = 8 then 4 else if k = 9 then 4 else 0

set_option maxRecDepth 8000 in
set_option maxHeartbeats 1000000 in
theorem cell_any (k : Int) (w : World) : Calls Tryz.prog 108 #[.int .i64 k] w fun e w' => e = .returned (.int .i64 (cellV k)) ∧ w' = w := by
 unfold cellV
 go_enter Tryz.func108, Tryz.ntmps108
 by_cases k1 : k = 1
 ·subst k1
  go_wp2
  go_ret
  exact ⟨rfl, rfl⟩
 ·rw [if_neg k1]
  by_cases k2 : k = 2
  ·subst k2
   go_wp2
   go_ret
   exact ⟨rfl, rfl⟩
  ·rw [if_neg k2]
   by_cases k3 : k = 3
   ·subst k3
    go_wp2
    go_ret
    exact ⟨rfl, rfl⟩
   ·rw [if_neg k3]
    by_cases k4 : k = 4
    ·subst k4
     go_wp2
     go_ret
     exact ⟨rfl, rfl⟩
    ·rw [if_neg k4]
     by_cases k5 : k = 5
     ·subst k5
      go_wp2
      go_ret
      exact ⟨rfl, rfl⟩
     ·rw [if_neg k5]
      by_cases k6 : k = 6
      ·subst k6
       go_wp2
       go_ret
       exact ⟨rfl, rfl⟩
      ·rw [if_neg k6]
       by_cases k7 : k = 7
       ·subst k7
        go_wp2
        go_ret
        exact ⟨rfl, rfl⟩
       ·rw [if_neg k7]
        by_cases k8 : k = 8
        ·subst k8
         go_wp2
         go_ret
         exact ⟨rfl, rfl⟩
        ·rw [if_neg k8]
         by_cases k9 : k = 9
         ·subst k9
          go_wp2
          go_ret
          exact ⟨rfl, rfl⟩
         ·rw [if_neg k9]
          go_wp2
          go_ret
          exact ⟨rfl, rfl⟩

theorem same_any (x y : OpV) (w : World) : Calls Tryz.prog 161 #[.agg (opA x), .agg (opA y)] w fun e w' => e = .returned (.bool (sm x y)) ∧ Below w.heap.size w w' := by
 have HX := Keep.mk ((Blk.new w 119 (opA x)).alloc (.cells (opA y) 119))
 have HY : Keep (Blk ((w.alloc (.cells (opA x) 119)).alloc (.cells (opA y) 119)) (w.heap.size + 1) 119 (opA y)) := ⟨by
  have h := Blk.new (w.alloc (.cells (opA x) 119)) 119 (opA y)
  simp only [World.size_alloc] at h
  exact h⟩
 have HB : Keep (Below w.heap.size w ((w.alloc (.cells (opA x) 119)).alloc (.cells (opA y) 119))) := ⟨(below_new w _).alloc (by simp) _⟩
 have he := run_eql33 x y
 go_enter Tryz.func161, Tryz.ntmps161
 go_wp2_with (first | (refine wpList_boxA rfl 119 (.tmp 0) rfl (opA x) rfl ?_; refine wpList_boxA rfl 119 (.tmp 1) rfl (opA y) rfl ?_) | (refine wpList_load_row rfl 119 (.tmp 2) rfl w.heap.size rfl 119 (opA x) (0, 0) _ HX.out Tryz.underlying119 rfl (Tryz.size119B x) ?_; refine wpList_load_row rfl 119 (.tmp 3) rfl (w.heap.size + 1) rfl 119 (opA y) (0, 0) _ HY.out Tryz.underlying119 rfl (Tryz.size119B y) ?_))
 go_ret
 exact ⟨rfl, HB.out⟩

theorem Tryz.size36L (c : List Int) : (Tryz.prog.info? 36).map (·.size) = some (bytesA 32 (hof c)).toList.length := by rw [Array.length_toList]; exact Tryz.size36B _

end Go.Proofs.YthlohkgdmfkpeaaGreat.Nd
namespace Go.Proofs.YthlohkgdmfkpeaaGreat.Nd
open Go.RowKit

section
variable {P : Program} {ops : Array Oper} {rest : List Oper} {o : Oper} {a : Act} {w : World} {Q : Exit → Act → World → Prop}
theorem WL.row (hw : Region.wanted o (yielded ops a.tmps) = true) (ty : TypeId) (x : Operand) (ho : o.op = .load ty x)
  (b : Nat) (hx : a.eval x = .pointer (some ⟨b, 0, none⟩)) (t : TypeId) (cs : Array Value) (d : TypeDesc) (hc : Blk w b t cs)
  (hu : P.underlying ty = some d) (hd : d.isRow = true) (hi : (P.info? ty).map (·.size) = some cs.size)
  (h : WL P ops Q rest (a.put o.dst (.agg cs)) w) : WL P ops Q (o :: rest) a w :=
 WL.mid hw ty x ho b 0 hx cs.toList d (blk_range hc) hu hd (by rw [Array.length_toList]; exact hi) (by rw [Array.toArray_toList]; exact h)
theorem WL.midA (hw : Region.wanted o (yielded ops a.tmps) = true) (ty : TypeId) (x : Operand) (ho : o.op = .load ty x)
  (b of : Nat) (hx : a.eval x = .pointer (some ⟨b, of, none⟩)) (cs : Array Value) (d : TypeDesc) (hc : w.rangeAt b of cs.toList)
  (hu : P.underlying ty = some d) (hd : d.isRow = true) (hi : (P.info? ty).map (·.size) = some cs.size)
  (h : WL P ops Q rest (a.put o.dst (.agg cs)) w) : WL P ops Q (o :: rest) a w :=
 WL.mid hw ty x ho b of hx cs.toList d hc hu hd (by rw [Array.length_toList]; exact hi) (by rw [Array.toArray_toList]; exact h)
theorem WL.new (hw : Region.wanted o (yielded ops a.tmps) = true) (t : TypeId) (ho : o.op = .alloc t) (cells : Array Value)
  (hf : ∀ w : World, (Instr.alloc t true (.tuple #[])).run P w = .ok (.pointer (some ⟨w.heap.size, 0, none⟩)) (w.alloc (.cells cells t)))
  (h : WL P ops Q rest (a.put o.dst (.pointer (some ⟨w.heap.size, 0, none⟩))) (w.alloc (.cells cells t))) : WL P ops Q (o :: rest) a w :=
 ⟨wpList_wanted hw fun K hK => by
  unfold Oper.wp execOp
  simp only [ho, Sem.run_bind, hf w, Result.andThen_ok]
  exact hK _ _ h.out⟩
theorem WL.box (hw : Region.wanted o (yielded ops a.tmps) = true) (t : TypeId) (x : Operand) (ho : o.op = .box t x) (cs : Array Value) (hx : a.eval x = .agg cs)
  (h : WL P ops Q rest (a.put o.dst (.pointer (some ⟨w.heap.size, 0, none⟩))) (w.alloc (.cells cs t))) : WL P ops Q (o :: rest) a w :=
 ⟨wpList_wanted hw fun K hK => by
  unfold Oper.wp execOp
  simp only [ho, hx, Sem.run_bind, run_box_agg, Result.andThen_ok]
  exact hK _ _ h.out⟩
theorem WL.storeR (hw : Region.wanted o (yielded ops a.tmps) = true) (ty : TypeId) (x y : Operand) (ho : o.op = .store ty x y)
  (g : Nat) (cells : Array Value) (hx : a.eval x = .pointer (some ⟨g, 0, none⟩)) (hy : a.eval y = .agg cells)
  (t : TypeId) (old : Array Value) (hg : Blk w g t old) (hi : (P.info? ty).map (·.size) = some cells.size) (hold : old.size = cells.size) (h1 : cells.all (·.oneCell') = true)
  (h : WL P ops Q rest (a.put o.dst undef) (w.setRow g cells)) : WL P ops Q (o :: rest) a w :=
 ⟨wpList_wanted hw fun _ hK => wp_store_row ty x y ho g cells hx hy t old hg hi hold h1 (hK _ _ h.out)⟩
theorem WL.cell (hw : Region.wanted o (yielded ops a.tmps) = true) (w' : World) (hrun : (execOp a.eval o).run P w = .ok .skip w')
  (h : WL P ops Q rest (a.put o.dst undef) w') : WL P ops Q (o :: rest) a w :=
 ⟨wpList_wanted hw fun _ hK => by unfold Oper.wp; rw [hrun, Oper.upon_skip]; exact hK _ _ h.out⟩
theorem WL.bld (hw : Region.wanted o (yielded ops a.tmps) = true) (t : TypeId) (parts : Array (Nat × Operand)) (ho : o.op = .build t parts)
  (vs : List (Nat × Value)) (hv : (parts.map fun (i, x) => (i, a.eval x)).toList = vs) (cells : Array Value) (hf : P.built t vs = some cells)
  (h : WL P ops Q rest (a.put o.dst (.agg cells)) w) : WL P ops Q (o :: rest) a w :=
 ⟨wpList_wanted hw fun _ hK => wp_bldG t parts ho cells (by rw [hv]; exact hf) (hK _ _ h.out)⟩
theorem WL.part (hw : Region.wanted o (yielded ops a.tmps) = true) (ty : TypeId) (x y : Operand) (ho : o.op = .store ty x y)
  (g off : Nat) (cells : Array Value) (hx : a.eval x = .pointer (some ⟨g, off, none⟩)) (hy : a.eval y = .agg cells)
  (t : TypeId) (cur : Array Value) (hg : Blk w g t cur) (hi : (P.info? ty).map (·.size) = some cells.size) (hfit : off + cells.size ≤ cur.size) (h1 : cells.all (·.oneCell') = true)
  (new : Array Value) (hn : (cur.toList.take off ++ cells.toList ++ cur.toList.drop (off + cells.size)).toArray = new)
  (h : WL P ops Q rest (a.put o.dst undef) (w.setRow g new)) : WL P ops Q (o :: rest) a w := by
 subst hn
 refine ⟨wpList_wanted hw fun K hK => ?_⟩
 have hst := run_storeCells_at P g off t cells.toList 0 cur w hg (by simpa using hfit) (fun v hv => (Array.all_eq_true_iff_forall_mem.1 h1) v (by simpa using hv))
 have hrun : (storeVar ty ⟨g, off, none⟩ (.agg cells)).run P w = .ok () (w.setRow g (cur.toList.take off ++ cells.toList ++ cur.toList.drop (off + cells.size)).toArray) := by
  cases hq : P.info? ty with
  | none => simp [hq] at hi
  | some i =>
   have hs : cells.size = i.size := by simp [hq] at hi; omega
   simp only [Nat.add_zero, Array.length_toList] at hst
   simp [storeVar, sizeOf, typeInfo, hq, Value.cells, hs, hst]
 unfold Oper.wp execOp
 simp only [ho, hx, hy, Instr.storeAt, Instr.sureAddr, Sem.run_bind, Sem.run_pure, Result.andThen_ok, hrun]
 exact hK _ _ h.out
theorem run_callF (a : Act) (o : Oper) (f : FuncId) (args : Array Operand) (ts : Array TypeId) (ho : o.op = .call { callee := .value (.func f), args := args, argTypes := ts })
  (hf : ∀ (w : World) (vs : Array Value), (callFunc f vs).run P w = .ok (.enter f vs) w) (w : World) :
  (execOp a.eval o).run P w = .ok (.enter f (args.map a.eval)) w := by
 unfold execOp
 simp only [ho]
 simp [resolve, Act.eval, go_sem]
 exact hf w _
theorem run_callV (a : Act) (o : Oper) (f : FuncId) (x : Operand) (args : Array Operand) (ts : Array TypeId) (ho : o.op = .call { callee := .value x, args := args, argTypes := ts }) (hx : a.eval x = .func (.func f) #[] #[])
  (hf : ∀ (w : World) (vs : Array Value), (callFunc f vs).run P w = .ok (.enter f vs) w) (w : World) :
  (execOp a.eval o).run P w = .ok (.enter f (args.map a.eval)) w := by
 unfold execOp
 simp only [ho, resolve, hx]
 generalize Array.map a.eval args = vs
 simp [go_sem]
 exact hf w _
theorem WL.callF (hw : Region.wanted o (yielded ops a.tmps) = true) (f : FuncId) (args : Array Operand) (ts : Array TypeId) (ho : o.op = .call { callee := .value (.func f), args := args, argTypes := ts })
  (hf : ∀ (w : World) (vs : Array Value), (callFunc f vs).run P w = .ok (.enter f vs) w) (vs : Array Value) (hvs : args.map a.eval = vs)
  (hc : Calls P f vs w fun e w' => ∃ v, e = .returned v ∧ WL P ops Q rest (a.put o.dst v) w') : WL P ops Q (o :: rest) a w :=
 ⟨wpList_wanted hw fun K hK => by
  unfold Oper.wp
  rw [run_callF a o f args ts ho hf w, Oper.upon_enter, hvs]
  refine hc.mono ?_
  rintro e w' ⟨v, rfl, hr⟩
  exact hK _ _ hr.out⟩
theorem WL.callV (hw : Region.wanted o (yielded ops a.tmps) = true) (f : FuncId) (x : Operand) (args : Array Operand) (ts : Array TypeId) (ho : o.op = .call { callee := .value x, args := args, argTypes := ts }) (hx : a.eval x = .func (.func f) #[] #[])
  (hf : ∀ (w : World) (vs : Array Value), (callFunc f vs).run P w = .ok (.enter f vs) w) (vs : Array Value) (hvs : args.map a.eval = vs)
  (hc : Calls P f vs w fun e w' => ∃ v, e = .returned v ∧ WL P ops Q rest (a.put o.dst v) w') : WL P ops Q (o :: rest) a w :=
 ⟨wpList_wanted hw fun K hK => by
  unfold Oper.wp
  rw [run_callV a o f x args ts ho hx hf w, Oper.upon_enter, hvs]
  refine hc.mono ?_
  rintro e w' ⟨v, rfl, hr⟩
  exact hK _ _ hr.out⟩
end
theorem Blk.c {w : World} {b : Nat} {T : TypeId} {cs : Array Value} (h : Blk w b T cs) (j : Nat) {v : Value} (hv : cs[j]? = some v) : w.cell? ⟨b, j, none⟩ = some v := by rw [h.cell]; exact hv
theorem Tryz.in73 (w : World) (vs : Array Value) : (callFunc 73 vs).run Tryz.prog w = .ok (.enter 73 vs) w := by kernel_rfl
theorem Tryz.in108 (w : World) (vs : Array Value) : (callFunc 108 vs).run Tryz.prog w = .ok (.enter 108 vs) w := by kernel_rfl
theorem Tryz.in161 (w : World) (vs : Array Value) : (callFunc 161 vs).run Tryz.prog w = .ok (.enter 161 vs) w := by kernel_rfl
theorem Tryz.in91 (w : World) (vs : Array Value) : (callFunc 91 vs).run Tryz.prog w = .ok (.enter 91 vs) w := by kernel_rfl
theorem Tryz.in92 (w : World) (vs : Array Value) : (callFunc 92 vs).run Tryz.prog w = .ok (.enter 92 vs) w := by kernel_rfl
theorem Tryz.in107 (w : World) (vs : Array Value) : (callFunc 107 vs).run Tryz.prog w = .ok (.enter 107 vs) w := by kernel_rfl
theorem Tryz.in109 (w : World) (vs : Array Value) : (callFunc 109 vs).run Tryz.prog w = .ok (.enter 109 vs) w := by kernel_rfl
theorem Tryz.in145 (w : World) (vs : Array Value) : (callFunc 145 vs).run Tryz.prog w = .ok (.enter 145 vs) w := by kernel_rfl
theorem Tryz.in150 (w : World) (vs : Array Value) : (callFunc 150 vs).run Tryz.prog w = .ok (.enter 150 vs) w := by kernel_rfl
theorem Tryz.in153 (w : World) (vs : Array Value) : (callFunc 153 vs).run Tryz.prog w = .ok (.enter 153 vs) w := by kernel_rfl
theorem Tryz.in158 (w : World) (vs : Array Value) : (callFunc 158 vs).run Tryz.prog w = .ok (.enter 158 vs) w := by kernel_rfl
end Go.Proofs.YthlohkgdmfkpeaaGreat.Nd
namespace Go.Proofs.YthlohkgdmfkpeaaGreat.Nd
open Go.RowKit
set_option linter.unusedSimpArgs false

def wipe (i : Nat) (x : OpV) : OpV := if i = 0 then { x with key := { data := #[] } } else if i = 1 then { x with text := { data := #[] } } else if i = 2 then { x with n := 0 } else { x with node := z32, op := 0 }
def wipes (is : List Nat) (x : OpV) : OpV := is.foldl (fun x i => wipe i x) x
theorem wipes_next (is : List Nat) (t : Nat) (h : t < is.length) (x : OpV) : wipes (is.take (t + 1)) x = wipe (is.getD t 0) (wipes (is.take t) x) := by
 unfold wipes
 rw [List.take_succ_eq_append_getElem h, List.foldl_append]
 simp [List.getD_eq_getElem?_getD, h]
def WipePost (i g : Nat) (x : OpV) (w : World) (e : Ending) (w' : World) : Prop := e = .returned (.tuple #[]) ∧ Blk w' g 119 (opA (wipe i x)) ∧ Grown w w' fun k => k = g
theorem wipe0_any (g : Nat) (x : OpV) (w : World) (h : Blk w g 119 (opA x)) : Calls Tryz.prog 145 #[ptr g] w (WipePost 0 g x w) := by
 have c1 := h.c 1 (opA_1 x)
 have f1 := h.frozen 1
 have HB := Keep.mk (h.set 1 (.string { data := #[] }))
 rw [set_1] at HB
 clear h
 go_enter Tryz.func145, Tryz.ntmps145
 refine rgn ?_
 refine VlS (.pointer (some ⟨g, 0, none⟩)) ?_
 refine VlS (.pointer (some ⟨g, 0, none⟩)) ?_
 refine VlS (.pointer (some ⟨g, 1, none⟩)) ?_
 refine WL.cell (by kernel_rfl) (w.setCell ⟨g, 1, none⟩ (.string { data := #[] })) (by go_simp) ?_
 simp only [Act.put]
 refine WL.nil ?_
 go_end0
 exact ⟨rfl, HB.out, Grown.setCell w g 1 _ fun _ => rfl⟩
theorem wipe1_any (g : Nat) (x : OpV) (w : World) (h : Blk w g 119 (opA x)) : Calls Tryz.prog 150 #[ptr g] w (WipePost 1 g x w) := by
 have c1 := h.c 2 (opA_2 x)
 have f1 := h.frozen 2
 have HB := Keep.mk (h.set 2 (.string { data := #[] }))
 rw [set_2] at HB
 clear h
 go_enter Tryz.func150, Tryz.ntmps150
 refine rgn ?_
 refine VlS (.pointer (some ⟨g, 0, none⟩)) ?_
 refine VlS (.pointer (some ⟨g, 0, none⟩)) ?_
 refine VlS (.pointer (some ⟨g, 2, none⟩)) ?_
 refine WL.cell (by kernel_rfl) (w.setCell ⟨g, 2, none⟩ (.string { data := #[] })) (by go_simp) ?_
 simp only [Act.put]
 refine WL.nil ?_
 go_end0
 exact ⟨rfl, HB.out, Grown.setCell w g 2 _ fun _ => rfl⟩
theorem wipe2_any (g : Nat) (x : OpV) (w : World) (h : Blk w g 119 (opA x)) : Calls Tryz.prog 153 #[ptr g] w (WipePost 2 g x w) := by
 have c1 := h.c 3 (opA_3 x)
 have f1 := h.frozen 3
 have HB := Keep.mk (h.set 3 (.int .i64 0))
 rw [set_3] at HB
 clear h
 go_enter Tryz.func153, Tryz.ntmps153
 refine rgn ?_
 refine VlS (.pointer (some ⟨g, 0, none⟩)) ?_
 refine VlS (.pointer (some ⟨g, 0, none⟩)) ?_
 refine VlS (.pointer (some ⟨g, 3, none⟩)) ?_
 refine WL.cell (by kernel_rfl) (w.setCell ⟨g, 3, none⟩ (.int .i64 0)) (by go_simp) ?_
 simp only [Act.put]
 refine WL.nil ?_
 go_end0
 exact ⟨rfl, HB.out, Grown.setCell w g 3 _ fun _ => rfl⟩
theorem wipe3_any (g : Nat) (x : OpV) (w : World) (h : Blk w g 119 (opA x)) : Calls Tryz.prog 158 #[ptr g] w (WipePost 3 g x w) := by
 have HB := Keep.mk h
 clear h
 go_enter Tryz.func158, Tryz.ntmps158
 refine rgn ?_
 refine VlS (.pointer (some ⟨g, 0, none⟩)) ?_
 refine WL.bld (by kernel_rfl) 117 _ rfl [] (by simp) (idA z32 0) Tryz.built117 ?_
 simp only [Act.put, pqA, pqB, pqC]
 refine VlS (.pointer (some ⟨g, 0, none⟩)) ?_
 refine VlS (.pointer (some ⟨g, 4, none⟩)) ?_
 refine WL.part (by kernel_rfl) 117 (.tmp 5) (.tmp 3) rfl g 4 (idA z32 0) rfl rfl 119 (opA x) HB.out (Tryz.size117B _ _) (by rw [idA_size, opA_size]; decide) (idA_one _ _) _ (put_at x z32 0) ?_
 simp only [Act.put]
 refine WL.nil ?_
 go_end0
 exact ⟨rfl, HB.out.setRow _, Grown.setRow w g _ fun _ => rfl⟩
theorem FieldsAt.form {w : World} {v : Value} {is : List Nat} (h : FieldsAt w v is) : ∃ a c, v = .slice a is.length c := by
 rcases h with ⟨rfl, rfl⟩ | ⟨g, rfl, _⟩
 ·exact ⟨_, _, rfl⟩
 ·exact ⟨_, _, rfl⟩
theorem FieldsAt.below {w w' : World} {v : Value} {is : List Nat} (h : FieldsAt w v is) (hb : Below w.heap.size w w') : FieldsAt w' v is :=
 h.grown (Grown.below (S := fun _ => False) hb) fun _ _ h => h
theorem flatF_drop (is : List Nat) : ∀ t, (flatF is).toList.drop (t * 3) = (is.drop t).flatMap fun i => (fldA i).toList := by
 induction is with
 | nil => intro t; simp [flatF]
 | cons i is ih =>
  intro t
  cases t with
  | zero => simp [flatF]
  | succ t =>
   have := ih t
   simp only [flatF, List.flatMap_cons, List.drop_succ_cons] at this ⊢
   rw [← this, show (t + 1) * 3 = 3 + t * 3 by omega, ← List.drop_drop, List.drop_left' (by rw [Array.length_toList, fldA_size])]
theorem flat_range {w : World} {g : Nat} {is : List Nat} (h : Blk w g 164 (flatF is)) {t : Nat} (ht : t < is.length) : w.rangeAt g (t * 3) (fldA (is.getD t 0)).toList := fun j v hv => by
 rw [h.cell]
 have h3 : j < 3 := by have := (List.getElem?_eq_some_iff.1 hv).1; rw [Array.length_toList, fldA_size] at this; exact this
 have e : (flatF is)[t * 3 + j]? = ((flatF is).toList.drop (t * 3))[j]? := by rw [List.getElem?_drop, Array.getElem?_toList]
 rw [e, flatF_drop, List.drop_eq_getElem_cons ht, List.flatMap_cons, List.getElem?_append_left (by rw [Array.length_toList, fldA_size]; exact h3)]
 rw [show is[t] = is.getD t 0 by simp [List.getD_eq_getElem?_getD, ht]]
 exact hv
theorem FieldsAt.at {w : World} {a : Option Addr} {n c : Nat} {is : List Nat} (h : FieldsAt w (.slice a n c) is) {t : Nat} (ht : t < is.length) : ∃ g, a = some ⟨g, 0, none⟩ ∧ w.rangeAt g (0 + t * 3) (fldA (is.getD t 0)).toList := by
 rcases h with ⟨_, rfl⟩ | ⟨g, e, h2⟩
 ·simp at ht
 ·injection e with e1 e2 e3
  exact ⟨g, e1, by rw [Nat.zero_add]; exact flat_range h2 ht⟩
set_option maxRecDepth 8000 in
set_option maxHeartbeats 1000000 in
theorem other_any (x : OpV) (v : Value) (is : List Nat) (w : World) (hF : FieldsAt w v is) (hi : ∀ i ∈ is, i < 4) (hn : is.length ≤ 3) :
  Calls Tryz.prog 107 #[.agg (opA x), v] w fun e w' => e = .returned (.bool (!sm (wipes is { x with kind := 0 }) zeroOp)) ∧ Below w.heap.size w w' := by
 obtain ⟨va, vc, rfl⟩ := hF.form
 have HF := Keep.mk hF
 have Hi := Keep.mk hi
 have Hn := Keep.mk hn
 have HB := Keep.mk (Blk.new w 119 (opA x))
 have HW := Keep.mk (below_new w (.cells (opA x) 119))
 obtain ⟨w1, hw1⟩ : ∃ w1, Keep (w.alloc (.cells (opA x) 119) = w1) := ⟨_, ⟨rfl⟩⟩
 rw [hw1.out] at HB HW
 have Hw1 : Keep (w.heap.size < w1.heap.size) := ⟨HB.out.lt⟩
 obtain ⟨x0, hx0⟩ : ∃ x0, x0 = { x with kind := 0 } := ⟨_, rfl⟩
 rw [← hx0]
 clear hF hi hn
 go_enter Tryz.func107, Tryz.ntmps107
 refine wp_seq_k fun K1 hK1 => rgn ?_
 refine WL.box (by kernel_rfl) 119 (.tmp 0) rfl (opA x) rfl ?_
 rw [hw1.out]
 simp only [Act.put, pqA, pqB, pqC]
 refine VbF ?_
 refine WL.nil (hK1 _ _ ?_)
 refine wp_seq_k fun K2 hK2 => rgn ?_
 refine WL.row (by kernel_rfl) 119 (.tmp 2) rfl w.heap.size rfl 119 (opA x) _ HB.out Tryz.underlying119 rfl (Tryz.size119B x) ?_
 simp only [Act.put, pqA, pqB, pqC]
 refine WL.new (by kernel_rfl) 119 rfl _ Tryz.new119 ?_
 simp only [Act.put, pqA, pqB, pqC]
 refine WL.storeR (by kernel_rfl) 119 (.tmp 5) (.tmp 8) rfl w1.heap.size (opA x) rfl rfl 119 (opA zeroOp) (Blk.new w1 119 _) (Tryz.size119B x) (opA_sizes _ _) (opA_one x) ?_
 have HX := Keep.mk ((Blk.new w1 119 (opA zeroOp)).setRow (opA x))
 have HW2 : Keep (Below w.heap.size w ((w1.alloc (.cells (opA zeroOp) 119)).setRow w1.heap.size (opA x))) := ⟨below_setRow (HW.out.alloc HW.out.size _) HW.out.size _⟩
 generalize (w1.alloc (.cells (opA zeroOp) 119)).setRow w1.heap.size (opA x) = w2 at *
 have c0 := HX.out.c 0 (opA_0 x)
 have f0 := HX.out.frozen 0
 simp only [Act.put]
 refine WL.nil (hK2 _ _ ?_)
 refine wp_seq_k fun K3 hK3 => rgn ?_
 refine VlS (.pointer (some ⟨w1.heap.size, 0, none⟩)) ?_
 refine WL.cell (by kernel_rfl) (w2.setCell ⟨w1.heap.size, 0, none⟩ (.int .i64 0)) (by go_simp) ?_
 have hX0 : Blk (w2.setCell ⟨w1.heap.size, 0, none⟩ (.int .i64 0)) w1.heap.size 119 (opA x0) := by rw [hx0]; have h := HX.out.set 0 (.int .i64 0); rw [set_0] at h; exact h
 have hB0 : Below w.heap.size w (w2.setCell ⟨w1.heap.size, 0, none⟩ (.int .i64 0)) := HW2.out.setCell HW.out.size _
 have hF0 := HF.out.below hB0
 generalize w2.setCell ⟨w1.heap.size, 0, none⟩ (.int .i64 0) = w3 at *
 clear c0 f0
 simp only [Act.put]
 refine WL.nil (hK3 _ _ ?_)
 refine wp_seq_k fun K4 hK4 => ?_
 refine wp_seq_k fun K5 hK5 => rgn ?_
 refine VlS (.slice va is.length vc) ?_
 refine VlS (.int .i64 (is.length : Int)) ?_
 refine VlS (.int .i64 0) ?_
 refine WL.nil (hK5 _ _ ?_)
 refine wp_block ?_
 refine wp_loop (fun a wr => ∃ (t : Nat) (u7 u13 u14 u15 u16 u17 u18 u19 : Value), a = { tmps := #[.agg (opA x), .slice va is.length vc, .pointer (some ⟨w.heap.size, 0, none⟩), undef, .bool false, .pointer (some ⟨w1.heap.size, 0, none⟩), undef, u7, .agg (opA x), .pointer (some ⟨w1.heap.size, 0, none⟩), .slice va is.length vc, .int .i64 (is.length : Int), .int .i64 (t : Int), u13, u14, u15, u16, u17, u18, u19, undef, undef, undef, undef], defers := [] } ∧ t ≤ is.length ∧ Blk wr w1.heap.size 119 (opA (wipes (is.take t) x0)) ∧ FieldsAt wr (.slice va is.length vc) is ∧ Below w.heap.size w wr) (fun a _ => is.length - (intOf (a.tmps.getD 12 undef)).toNat) ⟨0, undef, undef, undef, undef, undef, undef, undef, undef, rfl, by omega, hX0, hF0, hB0⟩ ?_
 rintro a wr ⟨t, u7, u13, u14, u15, u16, u17, u18, u19, rfl, ht, hX, hF, hB⟩
 by_cases htl : t < is.length
 ·have htl' : (t : Int) < (is.length : Int) := by omega
  obtain ⟨gF, rfl, hr⟩ := hF.at htl
  have hi4 := Hi.out _ (show is.getD t 0 ∈ is by simp [List.getD_eq_getElem?_getD, htl])
  have hnx := wipes_next is t htl x0
  obtain ⟨y, hy⟩ : ∃ y, y = wipes (is.take t) x0 := ⟨_, rfl⟩
  rw [← hy] at hX hnx
  have hg : w1.heap.size < wr.heap.size := hX.lt
  have hn1 : IntKind.i64.wrap ((t : Int) + 1) = (t : Int) + 1 := by rw [IntKind.wrap_i64]; have := Hn.out; omega
  have HFl := Keep.mk hF
  have HXl := Keep.mk hX
  have HBl := Keep.mk hB
  clear hF hX hB
  generalize is.getD t 0 = i at *
  rcases (show i = 0 ∨ i = 1 ∨ i = 2 ∨ i = 3 by omega) with rfl | rfl | rfl | rfl
  ·refine wp_seq_k fun K6 hK6 => rgn ?_
   refine VbT ?_
   refine WL.nil (hK6 _ _ ?_)
   refine wp_seq_k fun K7 hK7 => ?_
   refine wp_cond_true rfl ?_
   refine wp_skip ?_
   refine hK7 _ _ ?_
   refine wp_seq_k fun K8 hK8 => ?_
   refine wp_block ?_
   refine wp_seq_k fun K9 hK9 => rgn ?_
   refine VlS (.pointer (some ⟨gF, 0 + t * 3, none⟩)) ?_
   refine WL.midA (by kernel_rfl) 164 (.tmp 14) rfl gF (0 + t * 3) rfl (fldA 0) _ hr Tryz.underlying164 rfl (Tryz.size164B 0) ?_
   simp only [Act.put, pqA, pqB, pqC]
   refine WL.new (by kernel_rfl) 164 rfl _ Tryz.new164 ?_
   simp only [Act.put, pqA, pqB, pqC]
   refine WL.storeR (by kernel_rfl) 164 (.tmp 7) (.tmp 15) rfl wr.heap.size (fldA 0) rfl rfl 164 noF (Blk.new wr 164 noF) (Tryz.size164B 0) (noF_sizes 0) (fldA_one 0) ?_
   have HN := Keep.mk ((Blk.new wr 164 noF).setRow (fldA 0))
   have HX2 := Keep.mk ((HXl.out.alloc (.cells noF 164)).setRow_ne (b' := wr.heap.size) (by omega) (fldA 0))
   have HG2 : Keep (Below wr.heap.size wr ((wr.alloc (.cells noF 164)).setRow wr.heap.size (fldA 0))) := ⟨below_setRow (below_new wr _) (Nat.le_refl _) _⟩
   generalize (wr.alloc (.cells noF 164)).setRow wr.heap.size (fldA 0) = wq at *
   have cf : wq.cell? ⟨wr.heap.size, 0, none⟩ = some (fnv 145) := HN.out.c 0 rfl
   unfold fnv at cf
   simp only [Act.put]
   refine WL.nil (hK9 _ _ ?_)
   refine rgn ?_
   refine VlS (.pointer (some ⟨wr.heap.size, 0, none⟩)) ?_
   refine VlS (.func (.func 145) #[] #[]) ?_
   refine WL.callV (by kernel_rfl) 145 (.tmp 17) _ _ rfl rfl Tryz.in145 #[ptr w1.heap.size] (by simp [Act.eval]) ?_
   refine (wipe0_any w1.heap.size y wq HX2.out).mono ?_
   rintro e w5 ⟨rfl, h5, h6⟩
   refine ⟨_, rfl, ?_⟩
   have HX5 := Keep.mk h5
   have HG5 : Keep (Grown wr w5 fun k => k = w1.heap.size) := ⟨(Grown.below HG2.out).trans h6⟩
   clear h5 h6 cf
   simp only [Act.put, pqA, pqB, pqC]
   refine WL.nil (hK8 _ _ ?_)
   refine rgn ?_
   refine VlS (.int .i64 ((t : Int) + 1)) ?_
   refine VlS (.int .i64 ((t : Int) + 1)) ?_
   refine WL.nil ?_
   refine ⟨⟨t + 1, .pointer (some ⟨wr.heap.size, 0, none⟩), .bool true, .pointer (some ⟨gF, 0 + t * 3, none⟩), .agg (fldA 0), .pointer (some ⟨wr.heap.size, 0, none⟩), .func (.func 145) #[] #[], .tuple #[], .int .i64 ((t : Int) + 1), rfl, by omega, by rw [hnx]; exact HX5.out, HFl.out.grown HG5.out ?_, ?_⟩, ?_⟩
   ·intro g hgb e; subst e; exact absurd (blk_type hgb HXl.out) (by decide)
   ·exact ⟨HG5.out.os.trans HBl.out.os, HG5.out.tape.trans HBl.out.tape, HG5.out.output.trans HBl.out.output, Nat.le_trans HBl.out.size HG5.out.size, fun j hj => by rw [HG5.out.block j (Nat.lt_of_lt_of_le hj HBl.out.size) (by have := Hw1.out; omega)]; exact HBl.out.block j hj⟩
   ·simp only [intOf]; show is.length - ((t : Int) + 1).toNat < is.length - ((t : Int)).toNat; omega
  ·refine wp_seq_k fun K10 hK10 => rgn ?_
   refine VbT ?_
   refine WL.nil (hK10 _ _ ?_)
   refine wp_seq_k fun K11 hK11 => ?_
   refine wp_cond_true rfl ?_
   refine wp_skip ?_
   refine hK11 _ _ ?_
   refine wp_seq_k fun K12 hK12 => ?_
   refine wp_block ?_
   refine wp_seq_k fun K13 hK13 => rgn ?_
   refine VlS (.pointer (some ⟨gF, 0 + t * 3, none⟩)) ?_
   refine WL.midA (by kernel_rfl) 164 (.tmp 14) rfl gF (0 + t * 3) rfl (fldA 1) _ hr Tryz.underlying164 rfl (Tryz.size164B 1) ?_
   simp only [Act.put, pqA, pqB, pqC]
   refine WL.new (by kernel_rfl) 164 rfl _ Tryz.new164 ?_
   simp only [Act.put, pqA, pqB, pqC]
   refine WL.storeR (by kernel_rfl) 164 (.tmp 7) (.tmp 15) rfl wr.heap.size (fldA 1) rfl rfl 164 noF (Blk.new wr 164 noF) (Tryz.size164B 1) (noF_sizes 1) (fldA_one 1) ?_
   have HN := Keep.mk ((Blk.new wr 164 noF).setRow (fldA 1))
   have HX2 := Keep.mk ((HXl.out.alloc (.cells noF 164)).setRow_ne (b' := wr.heap.size) (by omega) (fldA 1))
   have HG2 : Keep (Below wr.heap.size wr ((wr.alloc (.cells noF 164)).setRow wr.heap.size (fldA 1))) := ⟨below_setRow (below_new wr _) (Nat.le_refl _) _⟩
   generalize (wr.alloc (.cells noF 164)).setRow wr.heap.size (fldA 1) = wq at *
   have cf : wq.cell? ⟨wr.heap.size, 0, none⟩ = some (fnv 150) := HN.out.c 0 rfl
   unfold fnv at cf
   simp only [Act.put]
   refine WL.nil (hK13 _ _ ?_)
   refine rgn ?_
   refine VlS (.pointer (some ⟨wr.heap.size, 0, none⟩)) ?_
   refine VlS (.func (.func 150) #[] #[]) ?_
   refine WL.callV (by kernel_rfl) 150 (.tmp 17) _ _ rfl rfl Tryz.in150 #[ptr w1.heap.size] (by simp [Act.eval]) ?_
   refine (wipe1_any w1.heap.size y wq HX2.out).mono ?_
   rintro e w5 ⟨rfl, h5, h6⟩
   refine ⟨_, rfl, ?_⟩
   have HX5 := Keep.mk h5
   have HG5 : Keep (Grown wr w5 fun k => k = w1.heap.size) := ⟨(Grown.below HG2.out).trans h6⟩
   clear h5 h6 cf
   simp only [Act.put, pqA, pqB, pqC]
   refine WL.nil (hK12 _ _ ?_)
   refine rgn ?_
   refine VlS (.int .i64 ((t : Int) + 1)) ?_
   refine VlS (.int .i64 ((t : Int) + 1)) ?_
   refine WL.nil ?_
   refine ⟨⟨t + 1, .pointer (some ⟨wr.heap.size, 0, none⟩), .bool true, .pointer (some ⟨gF, 0 + t * 3, none⟩), .agg (fldA 1), .pointer (some ⟨wr.heap.size, 0, none⟩), .func (.func 150) #[] #[], .tuple #[], .int .i64 ((t : Int) + 1), rfl, by omega, by rw [hnx]; exact HX5.out, HFl.out.grown HG5.out ?_, ?_⟩, ?_⟩
   ·intro g hgb e; subst e; exact absurd (blk_type hgb HXl.out) (by decide)
   ·exact ⟨HG5.out.os.trans HBl.out.os, HG5.out.tape.trans HBl.out.tape, HG5.out.output.trans HBl.out.output, Nat.le_trans HBl.out.size HG5.out.size, fun j hj => by rw [HG5.out.block j (Nat.lt_of_lt_of_le hj HBl.out.size) (by have := Hw1.out; omega)]; exact HBl.out.block j hj⟩
   ·simp only [intOf]; show is.length - ((t : Int) + 1).toNat < is.length - ((t : Int)).toNat; omega
  ·refine wp_seq_k fun K14 hK14 => rgn ?_
   refine VbT ?_
   refine WL.nil (hK14 _ _ ?_)
   refine wp_seq_k fun K15 hK15 => ?_
   refine wp_cond_true rfl ?_
   refine wp_skip ?_
   refine hK15 _ _ ?_
   refine wp_seq_k fun K16 hK16 => ?_
   refine wp_block ?_
   refine wp_seq_k fun K17 hK17 => rgn ?_
   refine VlS (.pointer (some ⟨gF, 0 + t * 3, none⟩)) ?_
   refine WL.midA (by kernel_rfl) 164 (.tmp 14) rfl gF (0 + t * 3) rfl (fldA 2) _ hr Tryz.underlying164 rfl (Tryz.size164B 2) ?_
   simp only [Act.put, pqA, pqB, pqC]
   refine WL.new (by kernel_rfl) 164 rfl _ Tryz.new164 ?_
   simp only [Act.put, pqA, pqB, pqC]
   refine WL.storeR (by kernel_rfl) 164 (.tmp 7) (.tmp 15) rfl wr.heap.size (fldA 2) rfl rfl 164 noF (Blk.new wr 164 noF) (Tryz.size164B 2) (noF_sizes 2) (fldA_one 2) ?_
   have HN := Keep.mk ((Blk.new wr 164 noF).setRow (fldA 2))
   have HX2 := Keep.mk ((HXl.out.alloc (.cells noF 164)).setRow_ne (b' := wr.heap.size) (by omega) (fldA 2))
   have HG2 : Keep (Below wr.heap.size wr ((wr.alloc (.cells noF 164)).setRow wr.heap.size (fldA 2))) := ⟨below_setRow (below_new wr _) (Nat.le_refl _) _⟩
   generalize (wr.alloc (.cells noF 164)).setRow wr.heap.size (fldA 2) = wq at *
   have cf : wq.cell? ⟨wr.heap.size, 0, none⟩ = some (fnv 153) := HN.out.c 0 rfl
   unfold fnv at cf
   simp only [Act.put]
   refine WL.nil (hK17 _ _ ?_)
   refine rgn ?_
   refine VlS (.pointer (some ⟨wr.heap.size, 0, none⟩)) ?_
   refine VlS (.func (.func 153) #[] #[]) ?_
   refine WL.callV (by kernel_rfl) 153 (.tmp 17) _ _ rfl rfl Tryz.in153 #[ptr w1.heap.size] (by simp [Act.eval]) ?_
   refine (wipe2_any w1.heap.size y wq HX2.out).mono ?_
   rintro e w5 ⟨rfl, h5, h6⟩
   refine ⟨_, rfl, ?_⟩
   have HX5 := Keep.mk h5
   have HG5 : Keep (Grown wr w5 fun k => k = w1.heap.size) := ⟨(Grown.below HG2.out).trans h6⟩
   clear h5 h6 cf
   simp only [Act.put, pqA, pqB, pqC]
   refine WL.nil (hK16 _ _ ?_)
   refine rgn ?_
   refine VlS (.int .i64 ((t : Int) + 1)) ?_
   refine VlS (.int .i64 ((t : Int) + 1)) ?_
   refine WL.nil ?_
   refine ⟨⟨t + 1, .pointer (some ⟨wr.heap.size, 0, none⟩), .bool true, .pointer (some ⟨gF, 0 + t * 3, none⟩), .agg (fldA 2), .pointer (some ⟨wr.heap.size, 0, none⟩), .func (.func 153) #[] #[], .tuple #[], .int .i64 ((t : Int) + 1), rfl, by omega, by rw [hnx]; exact HX5.out, HFl.out.grown HG5.out ?_, ?_⟩, ?_⟩
   ·intro g hgb e; subst e; exact absurd (blk_type hgb HXl.out) (by decide)
   ·exact ⟨HG5.out.os.trans HBl.out.os, HG5.out.tape.trans HBl.out.tape, HG5.out.output.trans HBl.out.output, Nat.le_trans HBl.out.size HG5.out.size, fun j hj => by rw [HG5.out.block j (Nat.lt_of_lt_of_le hj HBl.out.size) (by have := Hw1.out; omega)]; exact HBl.out.block j hj⟩
   ·simp only [intOf]; show is.length - ((t : Int) + 1).toNat < is.length - ((t : Int)).toNat; omega
  ·refine wp_seq_k fun K18 hK18 => rgn ?_
   refine VbT ?_
   refine WL.nil (hK18 _ _ ?_)
   refine wp_seq_k fun K19 hK19 => ?_
   refine wp_cond_true rfl ?_
   refine wp_skip ?_
   refine hK19 _ _ ?_
   refine wp_seq_k fun K20 hK20 => ?_
   refine wp_block ?_
   refine wp_seq_k fun K21 hK21 => rgn ?_
   refine VlS (.pointer (some ⟨gF, 0 + t * 3, none⟩)) ?_
   refine WL.midA (by kernel_rfl) 164 (.tmp 14) rfl gF (0 + t * 3) rfl (fldA 3) _ hr Tryz.underlying164 rfl (Tryz.size164B 3) ?_
   simp only [Act.put, pqA, pqB, pqC]
   refine WL.new (by kernel_rfl) 164 rfl _ Tryz.new164 ?_
   simp only [Act.put, pqA, pqB, pqC]
   refine WL.storeR (by kernel_rfl) 164 (.tmp 7) (.tmp 15) rfl wr.heap.size (fldA 3) rfl rfl 164 noF (Blk.new wr 164 noF) (Tryz.size164B 3) (noF_sizes 3) (fldA_one 3) ?_
   have HN := Keep.mk ((Blk.new wr 164 noF).setRow (fldA 3))
   have HX2 := Keep.mk ((HXl.out.alloc (.cells noF 164)).setRow_ne (b' := wr.heap.size) (by omega) (fldA 3))
   have HG2 : Keep (Below wr.heap.size wr ((wr.alloc (.cells noF 164)).setRow wr.heap.size (fldA 3))) := ⟨below_setRow (below_new wr _) (Nat.le_refl _) _⟩
   generalize (wr.alloc (.cells noF 164)).setRow wr.heap.size (fldA 3) = wq at *
   have cf : wq.cell? ⟨wr.heap.size, 0, none⟩ = some (fnv 158) := HN.out.c 0 rfl
   unfold fnv at cf
   simp only [Act.put]
   refine WL.nil (hK21 _ _ ?_)
   refine rgn ?_
   refine VlS (.pointer (some ⟨wr.heap.size, 0, none⟩)) ?_
   refine VlS (.func (.func 158) #[] #[]) ?_
   refine WL.callV (by kernel_rfl) 158 (.tmp 17) _ _ rfl rfl Tryz.in158 #[ptr w1.heap.size] (by simp [Act.eval]) ?_
   refine (wipe3_any w1.heap.size y wq HX2.out).mono ?_
   rintro e w5 ⟨rfl, h5, h6⟩
   refine ⟨_, rfl, ?_⟩
   have HX5 := Keep.mk h5
   have HG5 : Keep (Grown wr w5 fun k => k = w1.heap.size) := ⟨(Grown.below HG2.out).trans h6⟩
   clear h5 h6 cf
   simp only [Act.put, pqA, pqB, pqC]
   refine WL.nil (hK20 _ _ ?_)
   refine rgn ?_
   refine VlS (.int .i64 ((t : Int) + 1)) ?_
   refine VlS (.int .i64 ((t : Int) + 1)) ?_
   refine WL.nil ?_
   refine ⟨⟨t + 1, .pointer (some ⟨wr.heap.size, 0, none⟩), .bool true, .pointer (some ⟨gF, 0 + t * 3, none⟩), .agg (fldA 3), .pointer (some ⟨wr.heap.size, 0, none⟩), .func (.func 158) #[] #[], .tuple #[], .int .i64 ((t : Int) + 1), rfl, by omega, by rw [hnx]; exact HX5.out, HFl.out.grown HG5.out ?_, ?_⟩, ?_⟩
   ·intro g hgb e; subst e; exact absurd (blk_type hgb HXl.out) (by decide)
   ·exact ⟨HG5.out.os.trans HBl.out.os, HG5.out.tape.trans HBl.out.tape, HG5.out.output.trans HBl.out.output, Nat.le_trans HBl.out.size HG5.out.size, fun j hj => by rw [HG5.out.block j (Nat.lt_of_lt_of_le hj HBl.out.size) (by have := Hw1.out; omega)]; exact HBl.out.block j hj⟩
   ·simp only [intOf]; show is.length - ((t : Int) + 1).toNat < is.length - ((t : Int)).toNat; omega
 ·obtain rfl : t = is.length := by omega
  have htl' : ¬ (is.length : Int) < (is.length : Int) := by omega
  rw [List.take_length] at hX
  obtain ⟨y, hy⟩ : ∃ y, y = wipes is x0 := ⟨_, rfl⟩
  rw [← hy] at hX ⊢
  refine wp_seq_k fun K22 hK22 => rgn ?_
  refine VbF ?_
  refine WL.nil (hK22 _ _ ?_)
  refine wp_seq_k fun K23 hK23 => ?_
  refine wp_cond_false rfl ?_
  refine wp_exit ?_
  refine hK4 _ _ ?_
  refine wp_seq_k fun K24 hK24 => rgn ?_
  refine WL.row (by kernel_rfl) 119 (.tmp 5) rfl w1.heap.size rfl 119 (opA y) _ hX Tryz.underlying119 rfl (Tryz.size119B y) ?_
  simp only [Act.put, pqA, pqB, pqC]
  refine WL.bld (by kernel_rfl) 119 _ rfl [] (by simp) (opA zeroOp) Tryz.built119 ?_
  simp only [Act.put, pqA, pqB, pqC]
  refine WL.callF (by kernel_rfl) 161 _ _ rfl Tryz.in161 #[.agg (opA y), .agg (opA zeroOp)] (by simp [Act.eval]) ?_
  refine (same_any y zeroOp wr).mono ?_
  rintro e w5 ⟨rfl, h5⟩
  refine ⟨_, rfl, ?_⟩
  simp only [Act.put, pqA, pqB, pqC]
  refine VlS (.bool (!sm y zeroOp)) ?_
  refine VlS (.bool (!sm y zeroOp)) ?_
  refine WL.nil (hK24 _ _ ?_)
  refine wp_ret ?_
  go_ret
  exact ⟨by rw [← hy]; rfl, hB.trans (h5.mono hB.size)⟩
end Go.Proofs.YthlohkgdmfkpeaaGreat.Nd
