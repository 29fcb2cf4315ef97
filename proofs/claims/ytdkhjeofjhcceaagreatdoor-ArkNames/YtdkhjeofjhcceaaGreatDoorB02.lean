import Derived.Test.YtdkhjeofjhcceaaGreatDoorChecked
import Derived.WalkKit
import Derived.WalkSpells
import Derived.WalkLawsBesides
import Derived.BigQuiet
import Derived.BigRegion
import Derived.Deep.WholeRow
import Derived.Deep.MidRow
import Derived.Deep.RegionWith
import Derived.Deep.DeepCutAuto
import Derived.Deep.RegionHeld3
import Derived.Deep.QuietTactic
import Derived.Laws.OwnMore
import Derived.Laws.BytesArg
import Derived.Lib.AppendStr
import Derived.Maps.AppendAt
import Derived.ChangeKeysEq
import Derived.ArgAppend
import Derived.Lib.ConvBytes
import Derived.Laws.CopyOwn
import Derived.Laws.AppendOwnNone
import Derived.Sort.Grow
import Derived.Deep.Draws
import Derived.Maps.Own
namespace Go.Proofs.YtdkhjeofjhcceaaGreatDoor
open Go.RowKit

structure Keep (p : Prop) : Prop where
  out : p

def Blk (w : World) (b : Nat) (T : TypeId) (cs : Array Value) : Prop := w.heap[b]? = some (.cells cs T (0, 0))

theorem Blk.lt {w : World} {b : Nat} {T : TypeId} {cs : Array Value} (h : Blk w b T cs) : b < w.heap.size := (Array.getElem?_eq_some_iff.1 h).1
theorem Blk.cell {w : World} {b : Nat} {T : TypeId} {cs : Array Value} (h : Blk w b T cs) (j : Nat) : w.cell? ⟨b, j, none⟩ = cs[j]? := cell_of_row w b j cs T (0, 0) h
theorem Blk.frozen {w : World} {b : Nat} {T : TypeId} {cs : Array Value} (h : Blk w b T cs) (j : Nat) : w.frozen? ⟨b, j, none⟩ = false := by
  unfold Blk at h; simp [World.frozen?, h]
theorem Blk.new (w : World) (T : TypeId) (cs : Array Value) : Blk (w.alloc (.cells cs T)) w.heap.size T cs := heap_alloc_new w _
theorem Blk.alloc {w : World} {b : Nat} {T : TypeId} {cs : Array Value} (h : Blk w b T cs) (o : Obj) : Blk (w.alloc o) b T cs := by
  unfold Blk; rw [Below.heap_alloc w o b h.lt]; exact h
theorem Blk.drew {w : World} {b : Nat} {T : TypeId} {cs : Array Value} (h : Blk w b T cs) : Blk w.drew b T cs := h
theorem Blk.drewN {w : World} {b : Nat} {T : TypeId} {cs : Array Value} (h : Blk w b T cs) (n : Nat) : Blk (w.drewN n) b T cs := h
theorem Blk.below {w w' : World} {B b : Nat} {T : TypeId} {cs : Array Value} (h : Blk w b T cs) (hb : Below B w w') (hlt : b < B) : Blk w' b T cs := by
  unfold Blk; rw [hb.block b hlt]; exact h
theorem Blk.set {w : World} {b : Nat} {T : TypeId} {cs : Array Value} (h : Blk w b T cs) (j : Nat) (v : Value) : Blk (w.setCell ⟨b, j, none⟩ v) b T (cs.setIfInBounds j v) := by
  unfold Blk; rw [setCell_eq_setRow w b j cs T (0, 0) v h]; exact setRow_heap w b cs _ T (0, 0) h
theorem Blk.set_ne {w : World} {b b' j : Nat} {T : TypeId} {cs : Array Value} (h : Blk w b T cs) (hne : b ≠ b') (v : Value) : Blk (w.setCell ⟨b', j, none⟩ v) b T cs := by
  unfold Blk; rw [Below.heap_setCell w _ v b hne]; exact h
theorem Blk.setRow {w : World} {b : Nat} {T : TypeId} {cs : Array Value} (h : Blk w b T cs) (cs' : Array Value) : Blk (w.setRow b cs') b T cs' := setRow_heap w b cs cs' T (0, 0) h
theorem below_setRow {B : Nat} {a w : World} (h : Below B a w) {b : Nat} (hb : B ≤ b) (cs : Array Value) : Below B a (w.setRow b cs) :=
  h.trans ⟨rfl, rfl, rfl, by simp, fun k hk => setRow_other w b k cs (by omega)⟩
theorem below_new (w : World) (o : Obj) : Below w.heap.size w (w.alloc o) := (Below.refl _ _).alloc (Nat.le_refl _) o
theorem blk_type {w : World} {k : Nat} {T T' : TypeId} {cs cs' : Array Value} (h : Blk w k T cs) (h' : Blk w k T' cs') : T = T' := by
  unfold Blk at h h'; rw [h] at h'; simp at h'; exact h'.2
theorem cell_lt {w : World} {h j : Nat} {v : Value} (hc : w.cell? ⟨h, j, none⟩ = some v) : h < w.heap.size := by
  apply Nat.lt_of_not_le; intro hle
  simp [World.cell?, Array.getElem?_eq_none hle] at hc

abbrev ptr (g : Nat) : Value := .pointer (some ⟨g, 0, none⟩)

theorem grownBy_setCell (w : World) (g j : Nat) (v : Value) : w.grownBy (w.setCell ⟨g, j, none⟩ v) (some g) :=
  ⟨rfl, rfl, rfl, by simp [World.setCell], fun i _ hn => Below.heap_setCell w _ v i (fun e => hn (by rw [e]))⟩
theorem grownBy_setRow (w : World) (g : Nat) (cs : Array Value) : w.grownBy (w.setRow g cs) (some g) :=
  ⟨rfl, rfl, rfl, by simp, fun i _ hn => setRow_other w g i cs (fun e => hn (by rw [e]))⟩

structure Grown (w w' : World) (S : Nat → Prop) : Prop where
  os : w'.os = w.os
  tape : w'.tape = w.tape
  output : w'.output = w.output
  size : w.heap.size ≤ w'.heap.size
  block : ∀ k, k < w.heap.size → ¬ S k → w'.heap[k]? = w.heap[k]?
theorem Grown.refl (w : World) (S : Nat → Prop) : Grown w w S := ⟨rfl, rfl, rfl, Nat.le_refl _, fun _ _ _ => rfl⟩
theorem Grown.trans {a b c : World} {S : Nat → Prop} (h : Grown a b S) (k : Grown b c S) : Grown a c S :=
  ⟨k.os.trans h.os, k.tape.trans h.tape, k.output.trans h.output, Nat.le_trans h.size k.size, fun i hi hs => (k.block i (Nat.lt_of_lt_of_le hi h.size) hs).trans (h.block i hi hs)⟩
theorem Grown.next {a b c : World} {S T : Nat → Prop} (h : Grown a b S) (k : Grown b c T) (hT : ∀ i, i < a.heap.size → T i → S i) : Grown a c S :=
  ⟨k.os.trans h.os, k.tape.trans h.tape, k.output.trans h.output, Nat.le_trans h.size k.size, fun i hi hs => (k.block i (Nat.lt_of_lt_of_le hi h.size) (fun ht => hs (hT i hi ht))).trans (h.block i hi hs)⟩
theorem Grown.mono {a b : World} {S T : Nat → Prop} (h : Grown a b S) (hT : ∀ i, i < a.heap.size → S i → T i) : Grown a b T := (Grown.refl a T).next h hT
theorem Grown.of {a b : World} {S : Nat → Prop} {o : Option Nat} (h : a.grownBy b o) (ho : ∀ k, k < a.heap.size → o = some k → S k) : Grown a b S :=
  ⟨h.os, h.tape, h.output, h.size, fun i hi hs => h.block i hi (fun e => hs (ho i hi e.symm))⟩
theorem Grown.below {a b : World} {S : Nat → Prop} (h : Below a.heap.size a b) : Grown a b S := ⟨h.os, h.tape, h.output, h.size, fun i hi _ => h.block i hi⟩
theorem Grown.alloc (w : World) (o : Obj) (S : Nat → Prop) : Grown w (w.alloc o) S := Grown.below (below_new w o)
theorem Grown.drew {a b : World} {S : Nat → Prop} (h : Grown a b S) : Grown a b.drew S := ⟨h.os, h.tape, h.output, h.size, h.block⟩
theorem Grown.drewN {a b : World} {S : Nat → Prop} (h : Grown a b S) (n : Nat) : Grown a (b.drewN n) S := ⟨h.os, h.tape, h.output, h.size, h.block⟩
theorem Grown.setCell (w : World) (g j : Nat) (v : Value) {S : Nat → Prop} (hS : g < w.heap.size → S g) : Grown w (w.setCell ⟨g, j, none⟩ v) S :=
  Grown.of (grownBy_setCell w g j v) fun k hk e => by injection e with e; subst e; exact hS hk
theorem Grown.setRow (w : World) (g : Nat) (cs : Array Value) {S : Nat → Prop} (hS : g < w.heap.size → S g) : Grown w (w.setRow g cs) S :=
  Grown.of (grownBy_setRow w g cs) fun k hk e => by injection e with e; subst e; exact hS hk
theorem Grown.blk {a b : World} {S : Nat → Prop} (h : Grown a b S) {k : Nat} {T : TypeId} {cs : Array Value} (hk : Blk a k T cs) (hs : ¬ S k) : Blk b k T cs := by
  unfold Blk; rw [h.block k hk.lt hs]; exact hk
theorem Grown.cell {a b : World} {S : Nat → Prop} (h : Grown a b S) {k j : Nat} {v : Value} (hk : a.cell? ⟨k, j, none⟩ = some v) (hs : ¬ S k) : b.cell? ⟨k, j, none⟩ = some v := by
  rw [World.cell?_of_block (h.block k (cell_lt hk) hs)]; exact hk
theorem Grown.to_below {a b : World} {S : Nat → Prop} (h : Grown a b S) {B : Nat} (hs : ∀ k, k < B → ¬ S k) (hB : B ≤ a.heap.size) : Below B a b :=
  ⟨h.os, h.tape, h.output, h.size, fun i hi => h.block i (by omega) (hs i hi)⟩

def bv (l : List Int) : List Value := l.map fun c => .int .u8 c
theorem bv_len (l : List Int) : (bv l).length = l.length := by simp [bv]
theorem bv_get (l : List Int) (i : Nat) (h : i < l.length) : (bv l)[i]? = some (.int .u8 (l.getD i 0)) := by
  simp [bv, h, List.getD]
def RowAt (w : World) (v : Value) (l : List Int) : Prop :=
  (v = .slice none 0 0 ∧ l = []) ∨ (∃ a c, v = .slice (some a) 0 c ∧ l = []) ∨ ∃ h off cap, v = .slice (some ⟨h, off, none⟩) l.length cap ∧ l.length ≤ cap ∧ ∀ i, i < l.length → w.cell? ⟨h, off + i, none⟩ = some (.int .u8 (l.getD i 0))
theorem RowAt.grown {w w' : World} {v : Value} {l : List Int} {S : Nat → Prop} (h : RowAt w v l) (hg : Grown w w' S) (hs : ∀ b, v.ownBlock = some b → b < w.heap.size → ¬ S b) : RowAt w' v l := by
  rcases h with h | h | ⟨b, off, cap, h1, h2, h3⟩
  · exact .inl h
  · exact .inr (.inl h)
  · exact .inr (.inr ⟨b, off, cap, h1, h2, fun i hi => hg.cell (h3 i hi) (hs b (by rw [h1]; rfl) (cell_lt (h3 i hi)))⟩)
theorem RowAt.below {w w' : World} {v : Value} {l : List Int} (h : RowAt w v l) (hb : Below w.heap.size w w') : RowAt w' v l :=
  h.grown (Grown.below (S := fun _ => False) hb) fun _ _ _ h => h

def Own (w : World) (v : Value) (l : List Int) : Prop := w.ownsRow 0 5 1 v l.length (bv l)
theorem Own.row {w : World} {v : Value} {l : List Int} (h : Own w v l) : RowAt w v l := by
  have h' := h
  obtain ⟨_, h2⟩ := h
  rcases h2 with ⟨rfl, h0⟩ | ⟨g, cap, cur, rfl, hg, hh, hc, _⟩
  · exact .inl ⟨rfl, List.eq_nil_of_length_eq_zero (by omega)⟩
  · refine .inr <| .inr ⟨g, 0, cap, rfl, by omega, fun i hi => ?_⟩
    rw [Nat.zero_add, World.ownsRow.cellAt h' i (by omega), bv_get l i hi]
theorem Own.lt {w : World} {v : Value} {l : List Int} (h : Own w v l) : ∀ k, v.ownBlock = some k → k < w.heap.size := fun k hk => (World.ownsRow.lt h k hk).2
theorem Own.grown {w w' : World} {v : Value} {l : List Int} {S : Nat → Prop} (h : Own w v l) (hg : Grown w w' S) (hs : ∀ k, v.ownBlock = some k → ¬ S k) : Own w' v l := by
  refine ⟨h.1, ?_⟩
  rcases h.2 with h1 | ⟨g, cap, cur, rfl, h2, h3, h4⟩
  · exact .inl h1
  · exact .inr ⟨g, cap, cur, rfl, h2, hg.blk h3 (hs g rfl), h4⟩
theorem Own.ne {w : World} {v : Value} {l : List Int} {p : Nat} {T : TypeId} {cs : Array Value} (h : Own w v l) (hp : Blk w p T cs) (hT : T ≠ 5) : v.ownBlock ≠ some p := by
  intro e
  rcases h.2 with ⟨rfl, _⟩ | ⟨g, cap, cur, rfl, _, h3, _⟩
  · simp [Value.ownBlock] at e
  · simp [Value.ownBlock] at e
    subst e
    exact hT (blk_type hp h3)
theorem Own.form {w : World} {v : Value} {l : List Int} (h : Own w v l) : (v = .slice none 0 0 ∧ l = []) ∨ ∃ g cap cur, v = .slice (some ⟨g, 0, none⟩) l.length cap ∧ Blk w g 5 cur ∧ l.length ≤ cap ∧ cap ≤ maxLen ∧ cur.size = cap ∧ cur.toList.take l.length = bv l := by
  rcases h.2 with ⟨rfl, h0⟩ | ⟨g, cap, cur, rfl, _, h3, h4, h5, h6, h7⟩
  · exact .inl ⟨rfl, List.eq_nil_of_length_eq_zero h0⟩
  · exact .inr ⟨g, cap, cur, rfl, h3, h4, h5, by omega, by simpa using h7⟩
theorem Own.mk {w : World} {g cap : Nat} {cur : Array Value} {l : List Int} (h3 : Blk w g 5 cur) (h4 : l.length ≤ cap) (h5 : cap ≤ maxLen) (h6 : cur.size = cap) (h7 : cur.toList.take l.length = bv l) : Own w (.slice (some ⟨g, 0, none⟩) l.length cap) l :=
  ⟨by rw [bv_len]; omega, .inr ⟨g, cap, cur, rfl, Nat.zero_le _, h3, h4, h5, by omega, by simpa using h7⟩⟩
def Moved (w : World) (v v' : Value) : Prop := v'.ownBlock = v.ownBlock ∨ ∃ k, v'.ownBlock = some k ∧ w.heap.size ≤ k
theorem Moved.refl (w : World) (v : Value) : Moved w v v := .inl rfl
theorem Moved.trans {a b : World} {v v1 v2 : Value} (h : Moved a v v1) (hs : a.heap.size ≤ b.heap.size) (k : Moved b v1 v2) : Moved a v v2 := by
  rcases k with e | ⟨j, h1, h2⟩
  · rcases h with h | ⟨i, h1, h2⟩
    · exact .inl (e.trans h)
    · exact .inr ⟨i, e.trans h1, h2⟩
  · exact .inr ⟨j, h1, by omega⟩
theorem Moved.old {a : World} {v v1 : Value} (h : Moved a v v1) {k : Nat} (hk : k < a.heap.size) (e : v1.ownBlock = some k) : v.ownBlock = some k := by
  rcases h with h | ⟨i, h1, h2⟩
  · rw [← h]; exact e
  · rw [h1] at e; injection e with e; omega


def AppPost (w : World) (v : Value) (l : List Int) (v' : Value) (w' : World) : Prop :=
  Own w' v' l ∧ ((v'.ownBlock = v.ownBlock ∧ Grown w w' fun k => v.ownBlock = some k) ∨ (v'.ownBlock = some w.heap.size ∧ Below w.heap.size w w'))
theorem AppPost.moved {w w' : World} {v v' : Value} {l : List Int} (h : AppPost w v l v' w') : Moved w v v' := by
  rcases h.2 with h | h
  · exact .inl h.1
  · exact .inr ⟨_, h.1, Nat.le_refl _⟩
theorem AppPost.grown {w w' : World} {v v' : Value} {l : List Int} (h : AppPost w v l v' w') : Grown w w' fun k => v.ownBlock = some k := by
  rcases h.2 with h | h
  · exact h.2
  · exact Grown.below h.2

section
end
def Byts (l : List Int) : Prop := ∀ c ∈ l, 0 ≤ c ∧ c < 256
theorem Byts.nil : Byts [] := fun _ h => by simp at h
theorem Byts.app {a b : List Int} (h : Byts a) (k : Byts b) : Byts (a ++ b) := fun c hc => by
  rcases List.mem_append.1 hc with h1 | h1
  · exact h c h1
  · exact k c h1
theorem Byts.one {c : Int} (h : 0 ≤ c ∧ c < 256) : Byts [c] := fun x hx => by simp at hx; subst hx; exact h
theorem Byts.take {a : List Int} (h : Byts a) (n : Nat) : Byts (a.take n) := fun c hc => h c (List.mem_of_mem_take hc)
theorem Byts.drop {a : List Int} (h : Byts a) (n : Nat) : Byts (a.drop n) := fun c hc => h c (List.mem_of_mem_drop hc)
theorem Byts.getD {a : List Int} (h : Byts a) (n : Nat) : 0 ≤ a.getD n 0 ∧ a.getD n 0 < 256 := by
  rw [List.getD_eq_getElem?_getD]
  by_cases hn : n < a.length
  · rw [List.getElem?_eq_getElem hn]; exact h _ (List.getElem_mem hn)
  · rw [List.getElem?_eq_none (by omega)]; decide
theorem Own.sl {w : World} {v : Value} {l : List Int} (h : Own w v l) : ∃ a n c, v = .slice a n c := by
  rcases h.form with ⟨rfl, _⟩ | ⟨g, cap, cur, rfl, _⟩
  · exact ⟨_, _, _, rfl⟩
  · exact ⟨_, _, _, rfl⟩
def bytesA (n : Nat) (c : Nat → Int) : Array Value := Array.ofFn (n := n) fun i => .int .u8 (c i.val)
theorem bytesA_size (n : Nat) (c : Nat → Int) : (bytesA n c).size = n := by simp [bytesA]
theorem bytesA_get (n : Nat) (c : Nat → Int) (j : Nat) (h : j < n) : (bytesA n c)[j]? = some (.int .u8 (c j)) := by simp [bytesA, h]
theorem bytesA_one (n : Nat) (c : Nat → Int) : (bytesA n c).all (·.oneCell') = true := by
  rw [Array.all_eq_true_iff_forall_mem]; intro v hv; simp [bytesA] at hv; obtain ⟨i, rfl⟩ := hv; rfl
theorem bytesA_sizes (n : Nat) (c d : Nat → Int) : (bytesA n c).size = (bytesA n d).size := by rw [bytesA_size, bytesA_size]
def hl (n : Nat) (c : Nat → Int) : List Int := (List.range n).map c
theorem Tryz.size50 : (Tryz.prog.info? 50).map (·.size) = some 32 := by kernel_rfl
theorem Tryz.size50B (c : Nat → Int) : (Tryz.prog.info? 50).map (·.size) = some (bytesA 32 c).size := by rw [bytesA_size]; exact Tryz.size50
theorem run_box_agg {P : Program} (w : World) (t : TypeId) (cs : Array Value) : (Instr.box t (.agg cs)).run P w = .ok (.pointer (some ⟨w.heap.size, 0, none⟩)) (w.alloc (.cells cs t)) := rfl
theorem wpList_boxA {P : Program} {ops : Array Oper} {rest : List Oper} {o : Oper} {a : Act} {w : World} {Q : Exit → Act → World → Prop} (hg : o.guard = none) (t : TypeId) (x : Operand) (ho : o.op = .box t x)
    (cs : Array Value) (hx : a.eval x = .agg cs)
    (h : wpList P ops Q rest (a.put o.dst (.pointer (some ⟨w.heap.size, 0, none⟩))) (w.alloc (.cells cs t))) : wpList P ops Q (o :: rest) a w := by
  refine wpList_plain hg fun K hK => ?_
  unfold Oper.wp execOp
  simp only [ho, hx, Sem.run_bind, run_box_agg, Result.andThen_ok]
  exact hK _ _ h
theorem Own.box {w : World} {v : Value} {l : List Int} (h : Own w v l) (o : Obj) : Own (w.alloc o) v l := h.grown (Grown.alloc w o fun _ => False) fun _ _ h => h
theorem AppPost.box {w w' : World} {v v' : Value} {l : List Int} {o : Obj} (h : AppPost (w.alloc o) v l v' w') : Own w' v' l ∧ Moved w v v' ∧ Grown w w' fun k => v.ownBlock = some k :=
  ⟨h.1, (Moved.refl w v).trans (Grown.alloc w o fun _ => False).size h.moved, (Grown.alloc w o _).next h.grown fun _ _ h => h⟩
theorem Tryz.new50 (w : World) : (Instr.alloc 50 true (.tuple #[])).run Tryz.prog w = .ok (.pointer (some ⟨w.heap.size, 0, none⟩)) (w.alloc (.cells (bytesA 32 fun _ => 0) 50)) := by kernel_rfl
def Typ (w : World) (k : Nat) (T : TypeId) : Prop := ∃ cs fz, w.heap[k]? = some (.cells cs T fz)
theorem Blk.typ {w : World} {k : Nat} {T : TypeId} {cs : Array Value} (h : Blk w k T cs) : Typ w k T := ⟨cs, _, h⟩
theorem Typ.lt {w : World} {k : Nat} {T : TypeId} (h : Typ w k T) : k < w.heap.size := by
  obtain ⟨cs, fz, h⟩ := h
  exact (Array.getElem?_eq_some_iff.1 h).1
theorem Typ.one {w : World} {k : Nat} {T T' : TypeId} (h : Typ w k T) (h' : Typ w k T') : T = T' := by
  obtain ⟨cs, fz, h⟩ := h
  obtain ⟨cs', fz', h'⟩ := h'
  rw [h] at h'; simp at h'; exact h'.2.1
theorem Typ.ne {w : World} {k k' : Nat} {T T' : TypeId} (h : Typ w k T) (h' : Typ w k' T') (ht : T ≠ T') : k ≠ k' := by
  rintro rfl; exact ht (h.one h')
theorem Grown.typ {a b : World} {S : Nat → Prop} (h : Grown a b S) {k : Nat} {T : TypeId} (hk : Typ a k T) (hs : ¬ S k) : Typ b k T := by
  have hlt := hk.lt
  obtain ⟨cs, fz, h1⟩ := hk
  exact ⟨cs, fz, by rw [h.block k hlt hs]; exact h1⟩
theorem Own.typ {w : World} {v : Value} {l : List Int} (h : Own w v l) {k : Nat} (hk : v.ownBlock = some k) : Typ w k 5 := by
  rcases h.2 with ⟨rfl, _⟩ | ⟨g, cap, cur, rfl, _, h3, _⟩
  · simp [Value.ownBlock] at hk
  · simp [Value.ownBlock] at hk
    subst hk
    exact ⟨cur, _, h3⟩
def OwnT (w : World) (v : Value) (l : List Int) : Prop :=
  (v = .slice none 0 0 ∧ l = []) ∨ ∃ g cap cur fz, v = .slice (some ⟨g, 0, none⟩) l.length cap ∧ w.heap[g]? = some (.cells cur 5 fz) ∧ (fz = (0, 0) ∨ cap ≤ fz.1) ∧ l.length ≤ cap ∧ cap ≤ maxLen ∧ cur.size = cap ∧ cur.toList.take l.length = bv l
theorem Own.tail {w : World} {v : Value} {l : List Int} (h : Own w v l) : OwnT w v l := by
  rcases h.form with h | ⟨g, cap, cur, rfl, hb, h3, h4, h5, h6⟩
  · exact .inl h
  · exact .inr ⟨g, cap, cur, _, rfl, hb, .inl rfl, h3, h4, h5, h6⟩
theorem OwnT.typ {w : World} {v : Value} {l : List Int} (h : OwnT w v l) {k : Nat} (hk : v.ownBlock = some k) : Typ w k 5 := by
  rcases h with ⟨rfl, _⟩ | ⟨g, cap, cur, fz, rfl, h3, _⟩
  · simp [Value.ownBlock] at hk
  · simp [Value.ownBlock] at hk
    subst hk
    exact ⟨cur, _, h3⟩
theorem OwnT.lt {w : World} {v : Value} {l : List Int} (h : OwnT w v l) : ∀ k, v.ownBlock = some k → k < w.heap.size := fun _ hk => (h.typ hk).lt
theorem OwnT.ne {w : World} {v : Value} {l : List Int} {p : Nat} {T : TypeId} {cs : Array Value} (h : OwnT w v l) (hp : Blk w p T cs) (hT : T ≠ 5) : v.ownBlock ≠ some p := fun e => hT (hp.typ.one (h.typ e))
theorem OwnT.grown {w w' : World} {v : Value} {l : List Int} {S : Nat → Prop} (h : OwnT w v l) (hg : Grown w w' S) (hs : ∀ k, v.ownBlock = some k → ¬ S k) : OwnT w' v l := by
  rcases h with h1 | ⟨g, cap, cur, fz, rfl, h3, h4⟩
  · exact .inl h1
  · exact .inr ⟨g, cap, cur, fz, rfl, by rw [hg.block g (Array.getElem?_eq_some_iff.1 h3).1 (hs g rfl)]; exact h3, h4⟩
theorem OwnT.box {w : World} {v : Value} {l : List Int} (h : OwnT w v l) (o : Obj) : OwnT (w.alloc o) v l := h.grown (Grown.alloc w o fun _ => False) fun _ _ h => h
theorem take_get {cur : Array Value} {l : List Int} {n : Nat} (h : cur.toList.take n = bv l) (hl : l.length = n) (t : Nat) (ht : t < n) : cur[t]? = some (.int .u8 (l.getD t 0)) := by
  have h1 := bv_get l t (by omega)
  rw [← h, List.getElem?_take, if_pos ht] at h1
  simpa using h1
theorem OwnT.cells {w : World} {g n cap : Nat} {l : List Int} (h : OwnT w (.slice (some ⟨g, 0, none⟩) n cap) l) (t : Nat) (ht : t < l.length) : w.cell? ⟨g, t, none⟩ = some (.int .u8 (l.getD t 0)) ∧ w.frozen? ⟨g, t, none⟩ = false := by
  rcases h with ⟨e, _⟩ | ⟨g', cap', cur, fz, e, hb, hf, h3, h4, h5, h6⟩
  · cases e
  · injection e with e1 e2 e3
    injection e1 with e1
    injection e1 with e1
    subst e1 e2 e3
    refine ⟨by rw [cell_of_row w g t cur 5 fz hb]; exact take_get h6 rfl t ht, ?_⟩
    rcases hf with rfl | hf
    · simp [World.frozen?, hb]
    · simp only [World.frozen?, hb]
      simp
      omega
theorem OwnT.row {w : World} {v : Value} {l : List Int} (h : OwnT w v l) : RowAt w v l := by
  have h' := h
  rcases h with h1 | ⟨g, cap, cur, fz, rfl, hb, hf, h3, h4, h5, h6⟩
  · exact .inl h1
  · exact .inr (.inr ⟨g, 0, cap, rfl, h3, fun i hi => by rw [Nat.zero_add]; exact (h'.cells i hi).1⟩)
theorem OwnT.sl {w : World} {v : Value} {l : List Int} (h : OwnT w v l) : ∃ a n c, v = .slice a n c := by
  rcases h with ⟨rfl, _⟩ | ⟨g, cap, cur, fz, rfl, _⟩
  · exact ⟨_, _, _, rfl⟩
  · exact ⟨_, _, _, rfl⟩
theorem bv_set (l : List Int) (t : Nat) (c : Int) : (bv l).set t (.int .u8 c) = bv (l.set t c) := by simp [bv, List.map_set]
theorem OwnT.set {w : World} {g n cap : Nat} {l : List Int} (h : OwnT w (.slice (some ⟨g, 0, none⟩) n cap) l) (t : Nat) (c : Int) : OwnT (w.setCell ⟨g, t, none⟩ (.int .u8 c)) (.slice (some ⟨g, 0, none⟩) n cap) (l.set t c) := by
  rcases h with ⟨e, _⟩ | ⟨g', cap', cur, fz, e, hb, hf, h3, h4, h5, h6⟩
  · cases e
  · injection e with e1 e2 e3
    injection e1 with e1
    injection e1 with e1
    subst e1 e2 e3
    refine .inr ⟨g, cap, cur.setIfInBounds t (.int .u8 c), fz, by rw [List.length_set], ?_, hf, by rw [List.length_set]; exact h3, h4, by simp [h5], ?_⟩
    · rw [setCell_eq_setRow w g t cur 5 fz _ hb]; exact setRow_heap w g cur _ 5 fz hb
    · rw [Array.toList_setIfInBounds, List.length_set, List.take_set, h6, bv_set]
def AppPostT (w : World) (v : Value) (l : List Int) (v' : Value) (w' : World) : Prop :=
  OwnT w' v' l ∧ ((v'.ownBlock = v.ownBlock ∧ Grown w w' fun k => v.ownBlock = some k) ∨ (v'.ownBlock = some w.heap.size ∧ Below w.heap.size w w'))
theorem AppPostT.grown {w w' : World} {v v' : Value} {l : List Int} (h : AppPostT w v l v' w') : Grown w w' fun k => v.ownBlock = some k := by
  rcases h.2 with h | h
  · exact h.2
  · exact Grown.below h.2
theorem AppPost.tail {w w' : World} {v v' : Value} {l : List Int} (h : AppPost w v l v' w') : AppPostT w v l v' w' := ⟨h.1.tail, h.2⟩
theorem Tryz.isAgg5 (w : World) : (isAgg 5).run Tryz.prog w = .ok false w := by kernel_rfl
theorem Tryz.cells5 : Tryz.prog.cellsOf 5 = 1 := by kernel_rfl
theorem Tryz.size5 : (Tryz.prog.info? 5).map (·.size) = some 1 := by kernel_rfl
theorem run_part5 (c : Nat → Int) (i : Nat) (hi : i < 32) (w : World) : (part 5 (bytesA 32 c) i).run Tryz.prog w = .ok (.int .u8 (c i)) w := by
  unfold part
  rw [Sem.run_bind, Tryz.isAgg5]
  simp [Result.andThen, bytesA_get 32 c i hi]
theorem run_callF {P : Program} (a : Act) (o : Oper) (f : FuncId) (args : Array Operand) (ts : Array TypeId) (ho : o.op = .call { callee := .value (.func f), args := args, argTypes := ts })
    (hf : ∀ (w : World) (vs : Array Value), (callFunc f vs).run P w = .ok (.enter f vs) w) (w : World) :
    (execOp a.eval o).run P w = .ok (.enter f (args.map a.eval)) w := by
  unfold execOp
  simp only [ho]
  simp [resolve, Act.eval, go_sem]
  exact hf w _
theorem wp_callF {P : Program} {Q : Exit → Act → World → Prop} {o : Oper} {a : Act} {w : World} {K : Act → World → Prop} (f : FuncId) (args : Array Operand) (ts : Array TypeId) (ho : o.op = .call { callee := .value (.func f), args := args, argTypes := ts })
    (hf : ∀ (w : World) (vs : Array Value), (callFunc f vs).run P w = .ok (.enter f vs) w)
    (vs : Array Value) (hvs : args.map a.eval = vs)
    (R : Value → World → Prop) (hc : Calls P f vs w fun e w' => ∃ v, e = .returned v ∧ R v w')
    (h : ∀ v w', R v w' → K (a.put o.dst v) w') : o.wp P a w K Q := by
  unfold Oper.wp
  rw [run_callF a o f args ts ho hf w, Oper.upon_enter, hvs]
  refine hc.mono ?_
  rintro e w' ⟨v, rfl, hr⟩
  exact h v w' hr
theorem blk_range {w : World} {b : Nat} {T : TypeId} {cs : Array Value} (h : Blk w b T cs) : w.rangeAt b 0 cs.toList := fun j v hv => by
  rw [Nat.zero_add, h.cell]; simpa using hv
theorem wp_val {P : Program} {Q : Exit → Act → World → Prop} {o : Oper} {a : Act} {w : World} {K : Act → World → Prop} (v : Value) (hrun : (execOp a.eval o).run P w = .ok (.value v) w) (h : K (a.put o.dst v) w) : o.wp P a w K Q := by
  unfold Oper.wp
  rw [hrun]
  exact h
theorem Own.cells {w : World} {g n cap : Nat} {l : List Int} (h : Own w (.slice (some ⟨g, 0, none⟩) n cap) l) (t : Nat) (ht : t < l.length) : w.cell? ⟨g, t, none⟩ = some (.int .u8 (l.getD t 0)) ∧ w.frozen? ⟨g, t, none⟩ = false := h.tail.cells t ht
theorem Own.set {w : World} {g n cap : Nat} {l : List Int} (h : Own w (.slice (some ⟨g, 0, none⟩) n cap) l) (t : Nat) (c : Int) : Own (w.setCell ⟨g, t, none⟩ (.int .u8 c)) (.slice (some ⟨g, 0, none⟩) n cap) (l.set t c) := by
  rcases h.form with ⟨e, _⟩ | ⟨g', cap', cur, e, hb, h3, h4, h5, h6⟩
  · cases e
  · injection e with e1 e2 e3
    injection e1 with e1
    injection e1 with e1
    subst e1 e2 e3
    have hm := Own.mk (l := l.set t c) (hb.set t (.int .u8 c)) (by rw [List.length_set]; exact h3) h4 (by simp [h5]) (by rw [Array.toList_setIfInBounds, List.length_set, List.take_set, h6, bv_set])
    rw [List.length_set] at hm
    exact hm
theorem wpList_wanted {P : Program} {ops : Array Oper} {rest : List Oper} {o : Oper} {a : Act} {w : World} {Q : Exit → Act → World → Prop} (hw : Region.wanted o (yielded ops a.tmps) = true)
    (h : ∀ K : Act → World → Prop, (∀ a w, wpList P ops Q rest a w → K a w) → o.wp P a w K Q) : wpList P ops Q (o :: rest) a w :=
  wpList_step fun K hK => by rw [if_pos hw]; exact h K hK

theorem wp_bldG {P : Program} {o : Oper} {a : Act} {w : World} {K : Act → World → Prop} {Q : Exit → Act → World → Prop} (t : TypeId) (parts : Array (Nat × Operand)) (ho : o.op = .build t parts)
    (cells : Array Value) (hf : P.built t (parts.map fun (i, x) => (i, a.eval x)).toList = some cells) (h : K (a.put o.dst (.agg cells)) w) : o.wp P a w K Q :=
  wp_build t parts ho (by rw [hf]; rfl) (by rw [hf]; exact h)

structure WL (P : Program) (ops : Array Oper) (Q : Exit → Act → World → Prop) (l : List Oper) (a : Act) (w : World) : Prop where
  out : wpList P ops Q l a w
theorem WL.skip {P : Program} {ops : Array Oper} {rest : List Oper} {o : Oper} {a : Act} {w : World} {Q : Exit → Act → World → Prop} (hw : Region.wanted o (yielded ops a.tmps) = false)
    (h : WL P ops Q rest (a.put o.dst undef) w) : WL P ops Q (o :: rest) a w :=
  ⟨wpList_step fun K hK => by rw [if_neg (by rw [hw]; simp)]; exact hK _ _ h.out⟩
theorem WL.val {P : Program} {ops : Array Oper} {rest : List Oper} {o : Oper} {a : Act} {w : World} {Q : Exit → Act → World → Prop} (hw : Region.wanted o (yielded ops a.tmps) = true) (v : Value)
    (hrun : (execOp a.eval o).run P w = .ok (.value v) w) (h : WL P ops Q rest (a.put o.dst v) w) : WL P ops Q (o :: rest) a w :=
  ⟨wpList_wanted hw fun _ hK => wp_val v hrun (hK _ _ h.out)⟩
theorem WL.nil {P : Program} {ops : Array Oper} {a : Act} {w : World} {Q : Exit → Act → World → Prop} (h : Q .normal a w) : WL P ops Q [] a w := ⟨h⟩
theorem WL.mid {P : Program} {ops : Array Oper} {rest : List Oper} {op : Oper} {a : Act} {w : World} {Q : Exit → Act → World → Prop} (hw : Region.wanted op (yielded ops a.tmps) = true) (ty : TypeId) (x : Operand) (ho : op.op = .load ty x)
    (b o : Nat) (hx : a.eval x = .pointer (some ⟨b, o, none⟩)) (cs : List Value) (d : TypeDesc) (hc : w.rangeAt b o cs)
    (hu : P.underlying ty = some d) (hd : d.isRow = true) (hi : (P.info? ty).map (·.size) = some cs.length)
    (h : WL P ops Q rest (a.put op.dst (.agg cs.toArray)) w) : WL P ops Q (op :: rest) a w :=
  ⟨wpList_wanted hw fun _ hK => wp_load_mid ty x ho b o hx cs d hc hu hd hi (hK _ _ h.out)⟩
theorem WL.call {P : Program} {ops : Array Oper} {rest : List Oper} {o : Oper} {a : Act} {w : World} {Q : Exit → Act → World → Prop} (hw : Region.wanted o (yielded ops a.tmps) = true)
    (h : ∀ K : Act → World → Prop, (∀ a w, WL P ops Q rest a w → K a w) → o.wp P a w K Q) : WL P ops Q (o :: rest) a w :=
  ⟨wpList_wanted hw fun K hK => h K fun a w h => hK a w h.out⟩

section
variable {P : Program} {ops : Array Oper} {rest : List Oper} {o : Oper} {a : Act} {w : World} {Q : Exit → Act → World → Prop}
theorem WL.row (hw : Region.wanted o (yielded ops a.tmps) = true) (ty : TypeId) (x : Operand) (ho : o.op = .load ty x)
    (b : Nat) (hx : a.eval x = .pointer (some ⟨b, 0, none⟩)) (t : TypeId) (cs : Array Value) (d : TypeDesc) (hc : Blk w b t cs)
    (hu : P.underlying ty = some d) (hd : d.isRow = true) (hi : (P.info? ty).map (·.size) = some cs.size)
    (h : WL P ops Q rest (a.put o.dst (.agg cs)) w) : WL P ops Q (o :: rest) a w :=
  WL.mid hw ty x ho b 0 hx cs.toList d (blk_range hc) hu hd (by rw [Array.length_toList]; exact hi) (by rw [Array.toArray_toList]; exact h)
theorem WL.midA (hw : Region.wanted o (yielded ops a.tmps) = true) (ty : TypeId) (x : Operand) (ho : o.op = .load ty x)
    (b of : Nat) (hx : a.eval x = .pointer (some ⟨b, of, none⟩)) (cs : Array Value) (d : TypeDesc) (hc : w.rangeAt b of cs.toList)
    (hu : P.underlying ty = some d) (hd : d.isRow = true) (hi : (P.info? ty).map (·.size) = some cs.size)
    (h : WL P ops Q rest (a.put o.dst (.agg cs)) w) : WL P ops Q (o :: rest) a w :=
  WL.mid hw ty x ho b of hx cs.toList d hc hu hd (by rw [Array.length_toList]; exact hi) (by rw [Array.toArray_toList]; exact h)
theorem WL.new (hw : Region.wanted o (yielded ops a.tmps) = true) (t : TypeId) (ho : o.op = .alloc t) (cells : Array Value)
    (hf : ∀ w : World, (Instr.alloc t true (.tuple #[])).run P w = .ok (.pointer (some ⟨w.heap.size, 0, none⟩)) (w.alloc (.cells cells t)))
    (h : WL P ops Q rest (a.put o.dst (.pointer (some ⟨w.heap.size, 0, none⟩))) (w.alloc (.cells cells t))) : WL P ops Q (o :: rest) a w :=
  ⟨wpList_wanted hw fun K hK => by
    unfold Oper.wp execOp
    simp only [ho, Sem.run_bind, hf w, Result.andThen_ok]
    exact hK _ _ h.out⟩
theorem WL.box (hw : Region.wanted o (yielded ops a.tmps) = true) (t : TypeId) (x : Operand) (ho : o.op = .box t x) (cs : Array Value) (hx : a.eval x = .agg cs)
    (h : WL P ops Q rest (a.put o.dst (.pointer (some ⟨w.heap.size, 0, none⟩))) (w.alloc (.cells cs t))) : WL P ops Q (o :: rest) a w :=
  ⟨wpList_wanted hw fun K hK => by
    unfold Oper.wp execOp
    simp only [ho, hx, Sem.run_bind, run_box_agg, Result.andThen_ok]
    exact hK _ _ h.out⟩
theorem WL.storeR (hw : Region.wanted o (yielded ops a.tmps) = true) (ty : TypeId) (x y : Operand) (ho : o.op = .store ty x y)
    (g : Nat) (cells : Array Value) (hx : a.eval x = .pointer (some ⟨g, 0, none⟩)) (hy : a.eval y = .agg cells)
    (t : TypeId) (old : Array Value) (hg : Blk w g t old) (hi : (P.info? ty).map (·.size) = some cells.size) (hold : old.size = cells.size) (h1 : cells.all (·.oneCell') = true)
    (h : WL P ops Q rest (a.put o.dst undef) (w.setRow g cells)) : WL P ops Q (o :: rest) a w :=
  ⟨wpList_wanted hw fun _ hK => wp_store_row ty x y ho g cells hx hy t old hg hi hold h1 (hK _ _ h.out)⟩
theorem WL.cell (hw : Region.wanted o (yielded ops a.tmps) = true) (w' : World) (hrun : (execOp a.eval o).run P w = .ok .skip w')
    (h : WL P ops Q rest (a.put o.dst undef) w') : WL P ops Q (o :: rest) a w :=
  ⟨wpList_wanted hw fun _ hK => by unfold Oper.wp; rw [hrun, Oper.upon_skip]; exact hK _ _ h.out⟩
theorem WL.valW (hw : Region.wanted o (yielded ops a.tmps) = true) (v : Value) (w' : World) (hrun : (execOp a.eval o).run P w = .ok (.value v) w')
    (h : WL P ops Q rest (a.put o.dst v) w') : WL P ops Q (o :: rest) a w :=
  ⟨wpList_wanted hw fun _ hK => by unfold Oper.wp; rw [hrun, Oper.upon_value]; exact hK _ _ h.out⟩
theorem WL.bld (hw : Region.wanted o (yielded ops a.tmps) = true) (t : TypeId) (parts : Array (Nat × Operand)) (ho : o.op = .build t parts)
    (vs : List (Nat × Value)) (hv : (parts.map fun (i, x) => (i, a.eval x)).toList = vs) (cells : Array Value) (hf : P.built t vs = some cells)
    (h : WL P ops Q rest (a.put o.dst (.agg cells)) w) : WL P ops Q (o :: rest) a w :=
  ⟨wpList_wanted hw fun _ hK => wp_bldG t parts ho cells (by rw [hv]; exact hf) (hK _ _ h.out)⟩
theorem WL.bs (hw : Region.wanted o (yielded ops a.tmps) = true) (t : TypeId) (n : Nat) (parts : Array (Nat × Operand)) (ho : o.op = .buildSlice t n parts)
    (vs : Array (Nat × Value)) (hv : (parts.map fun (i, x) => (i, a.eval x)) = vs) (v : Value) (w' : World) (hrun : (Instr.buildSlice t n vs).run P w = .ok v w')
    (h : WL P ops Q rest (a.put o.dst v) w') : WL P ops Q (o :: rest) a w :=
  ⟨wpList_wanted hw fun K hK => by
    unfold Oper.wp execOp
    simp only [ho, hv, Sem.run_bind, hrun, Result.andThen_ok]
    exact hK _ _ h.out⟩
theorem WL.part (hw : Region.wanted o (yielded ops a.tmps) = true) (ty : TypeId) (x y : Operand) (ho : o.op = .store ty x y)
    (g off : Nat) (cells : Array Value) (hx : a.eval x = .pointer (some ⟨g, off, none⟩)) (hy : a.eval y = .agg cells)
    (t : TypeId) (cur : Array Value) (hg : Blk w g t cur) (hi : (P.info? ty).map (·.size) = some cells.size) (hfit : off + cells.size ≤ cur.size) (h1 : cells.all (·.oneCell') = true)
    (new : Array Value) (hn : (cur.toList.take off ++ cells.toList ++ cur.toList.drop (off + cells.size)).toArray = new)
    (h : WL P ops Q rest (a.put o.dst undef) (w.setRow g new)) : WL P ops Q (o :: rest) a w := by
  subst hn
  refine ⟨wpList_wanted hw fun K hK => ?_⟩
  have hst := run_storeCells_at P g off t cells.toList 0 cur w hg (by simpa using hfit) (fun v hv => (Array.all_eq_true_iff_forall_mem.1 h1) v (by simpa using hv))
  have hrun : (storeVar ty ⟨g, off, none⟩ (.agg cells)).run P w = .ok () (w.setRow g (cur.toList.take off ++ cells.toList ++ cur.toList.drop (off + cells.size)).toArray) := by
    cases hq : P.info? ty with
    | none => simp [hq] at hi
    | some i =>
      have hs : cells.size = i.size := by simp [hq] at hi; omega
      simp only [Nat.add_zero, Array.length_toList] at hst
      simp [storeVar, sizeOf, typeInfo, hq, Value.cells, hs, hst]
  unfold Oper.wp execOp
  simp only [ho, hx, hy, Instr.storeAt, Instr.sureAddr, Sem.run_bind, Sem.run_pure, Result.andThen_ok, hrun]
  exact hK _ _ h.out
theorem run_callV (a : Act) (o : Oper) (f : FuncId) (x : Operand) (args : Array Operand) (ts : Array TypeId) (ho : o.op = .call { callee := .value x, args := args, argTypes := ts }) (hx : a.eval x = .func (.func f) #[] #[])
    (hf : ∀ (w : World) (vs : Array Value), (callFunc f vs).run P w = .ok (.enter f vs) w) (w : World) :
    (execOp a.eval o).run P w = .ok (.enter f (args.map a.eval)) w := by
  unfold execOp
  simp only [ho, resolve, hx]
  generalize Array.map a.eval args = vs
  simp [go_sem]
  exact hf w _
theorem WL.callF (hw : Region.wanted o (yielded ops a.tmps) = true) (f : FuncId) (args : Array Operand) (ts : Array TypeId) (ho : o.op = .call { callee := .value (.func f), args := args, argTypes := ts })
    (hf : ∀ (w : World) (vs : Array Value), (callFunc f vs).run P w = .ok (.enter f vs) w) (vs : Array Value) (hvs : args.map a.eval = vs)
    (hc : Calls P f vs w fun e w' => ∃ v, e = .returned v ∧ WL P ops Q rest (a.put o.dst v) w') : WL P ops Q (o :: rest) a w :=
  ⟨wpList_wanted hw fun K hK => by
    unfold Oper.wp
    rw [run_callF a o f args ts ho hf w, Oper.upon_enter, hvs]
    refine hc.mono ?_
    rintro e w' ⟨v, rfl, hr⟩
    exact hK _ _ hr.out⟩
end
theorem Blk.c {w : World} {b : Nat} {T : TypeId} {cs : Array Value} (h : Blk w b T cs) (j : Nat) {v : Value} (hv : cs[j]? = some v) : w.cell? ⟨b, j, none⟩ = some v := by rw [h.cell]; exact hv
abbrev Hs := Vector UInt8 32

namespace Hs
def f (h : Hs) (i : Nat) : Int := ((h.toArray.getD i 0).toNat : Int)
theorem f_get (h : Hs) (i : Nat) (hi : i < 32) : h.f i = ((h[i]'hi).toNat : Int) := by
  unfold f
  rw [Array.getD_eq_getD_getElem?, Array.getElem?_eq_getElem (by rw [h.size_toArray]; exact hi)]
  rfl
theorem ext' {a b : Hs} (h : ∀ i, i < 32 → a.f i = b.f i) : a = b := by
  apply Vector.ext
  intro i hi
  have h1 := h i hi
  rw [f_get a i hi, f_get b i hi] at h1
  exact UInt8.toNat_inj.1 (by omega)
end Hs
theorem run_items2 (c e : Nat → Int) (d : Nat) (w : World) : ∀ is : List Nat, (∀ i ∈ is, i < 32) → (Op.eqItems (d + 1) 5 1 (bytesA 32 c) (bytesA 32 e) is).run Tryz.prog w = .ok (is.all fun i => c i == e i) w
  | [], _ => by simp [Op.eqItems]
  | i :: is, h => by
    have hi := h i (by simp)
    have ih := run_items2 c e d w is (fun j hj => h j (by simp [hj]))
    simp only [Op.eqItems, Sem.run_bind, Nat.mul_one, run_part5 c i hi, run_part5 e i hi, Result.andThen_ok]
    rw [run_equalIn_int (P := Tryz.prog) (w := w) d 5 .u8 .u8 (c i) (e i) Tryz.underlying5]
    by_cases hh : c i = e i
    · simp [Result.andThen_ok, ih, hh]
    · simp [Result.andThen_ok, hh]
theorem run_equal_arr2 (c e : Nat → Int) (w : World) : (Op.equalIn 10000 50 (.agg (bytesA 32 c)) (.agg (bytesA 32 e))).run Tryz.prog w = .ok ((List.range 32).all fun i => c i == e i) w := by
  obtain ⟨i, hi, _⟩ := Option.map_eq_some_iff.1 Tryz.size5
  rw [run_equalIn_array (P := Tryz.prog) w 9999 _ _ Tryz.underlying50 hi, Tryz.cells5]
  exact run_items2 c e 9998 w _ (fun j hj => List.mem_range.1 hj)
theorem all_eq_iff (x y : Hs) : ((List.range 32).all fun i => x.f i == y.f i) = decide (x = y) := by
  by_cases h : x = y
  · subst h; simp
  · rw [decide_eq_false h, Bool.eq_false_iff]
    intro h2
    refine h (Hs.ext' fun i hi => ?_)
    have := List.all_eq_true.1 h2 i (List.mem_range.2 hi)
    simpa using this
theorem run_eqlH (x y : Hs) (w : World) : (binOp .eql 50 (.agg (bytesA 32 x.f)) (.agg (bytesA 32 y.f))).run Tryz.prog w = .ok (.bool (decide (x = y))) w := by
  rw [run_eql_struct, run_equal_arr2, all_eq_iff]; rfl

def encH (h : Hs) : List Value := (bytesA 32 h.f).toList
theorem encH_len (h : Hs) : (encH h).length = 32 := by rw [encH, Array.length_toList, bytesA_size]
theorem encH_get (h : Hs) (j : Nat) (hj : j < 32) : (encH h)[j]? = some (.int .u8 (h.f j)) := by rw [encH, Array.getElem?_toList, bytesA_get _ _ _ hj]
theorem encH_one (h : Hs) (v : Value) (hv : v ∈ encH h) : v.oneCell' = true := by
  have := Array.all_eq_true'.1 (bytesA_one 32 h.f) v (by unfold encH at hv; exact Array.mem_toList_iff.1 hv)
  simpa using this
theorem encH_arr (h : Hs) : (encH h).toArray = bytesA 32 h.f := by rw [encH, Array.toArray_toList]
def flatH (L : List Hs) : List Value := L.flatMap encH
theorem flatH_nil : flatH [] = [] := rfl
theorem flatH_cons (x : Hs) (L : List Hs) : flatH (x :: L) = encH x ++ flatH L := rfl
theorem flatH_app (L M : List Hs) : flatH (L ++ M) = flatH L ++ flatH M := by simp [flatH]
theorem flatH_len : ∀ L : List Hs, (flatH L).length = L.length * 32
  | [] => rfl
  | x :: L => by rw [flatH_cons, List.length_append, encH_len, flatH_len L, List.length_cons]; omega
theorem flatH_get : ∀ (L : List Hs) (i : Nat) (hi : i < L.length) (j : Nat), j < 32 → (flatH L)[i * 32 + j]? = (encH L[i])[j]?
  | x :: L, 0, _, j, hj => by rw [flatH_cons, List.getElem?_append_left (by rw [encH_len]; omega)]; simp
  | x :: L, i + 1, hi, j, hj => by
    rw [flatH_cons, List.getElem?_append_right (by rw [encH_len]; omega), encH_len, show (i + 1) * 32 + j - 32 = i * 32 + j by omega]
    simpa using flatH_get L i (by simpa using hi) j hj
theorem flatH_one (L : List Hs) (v : Value) (hv : v ∈ flatH L) : v.oneCell' = true := by
  obtain ⟨x, _, hx⟩ := List.mem_flatMap.1 hv
  exact encH_one x v hx

def HRow (w : World) (v : Value) (L : List Hs) : Prop :=
  (∃ a c, v = .slice a 0 c ∧ L = [] ∧ (a = none → c = 0)) ∨ ∃ b off cap, v = .slice (some ⟨b, off, none⟩) L.length cap ∧ L.length ≤ cap ∧ w.rangeAt b off (flatH L)
theorem rangeAt_elem {w : World} {b off : Nat} {L : List Hs} (h : w.rangeAt b off (flatH L)) (i : Nat) (hi : i < L.length) : w.rangeAt b (off + i * 32) (encH L[i]) := by
  intro j v hv
  have hj : j < 32 := by
    have := (List.getElem?_eq_some_iff.1 hv).1
    rwa [encH_len] at this
  rw [Nat.add_assoc]
  exact h _ v (by rw [flatH_get L i hi j hj]; exact hv)
theorem HRow.form {w : World} {v : Value} {L : List Hs} (h : HRow w v L) : ∃ a c, v = .slice a L.length c := by
  rcases h with ⟨a, c, rfl, rfl, _⟩ | ⟨b, off, cap, rfl, _⟩
  · exact ⟨a, c, rfl⟩
  · exact ⟨_, cap, rfl⟩
theorem HRow.at {w : World} {a : Option Addr} {n c : Nat} {L : List Hs} (h : HRow w (.slice a n c) L) (hL : 0 < L.length) : ∃ b off, a = some ⟨b, off, none⟩ ∧ n = L.length ∧ L.length ≤ c ∧ w.rangeAt b off (flatH L) := by
  rcases h with ⟨_, _, _, rfl, _⟩ | ⟨b, off, cap, h1, h2, h3⟩
  · simp at hL
  · injection h1 with h1 h4 h5
    subst h1 h4 h5
    exact ⟨b, off, rfl, rfl, h2, h3⟩
theorem rangeAt_lt {w : World} {b off : Nat} {L : List Hs} (h : w.rangeAt b off (flatH L)) (hL : 0 < L.length) : b < w.heap.size := by
  have := h 0 (.int .u8 (L[0].f 0)) ((flatH_get L 0 hL 0 (by omega)).trans (encH_get _ _ (by omega)))
  exact cell_lt this
theorem rangeAt_below {w w' : World} {B b off : Nat} {cs : List Value} (h : w.rangeAt b off cs) (hb : Below B w w') (hlt : b < B) : w'.rangeAt b off cs := fun j v hv => by
  rw [hb.cell (p := ⟨b, off + j, none⟩) hlt]; exact h j v hv
theorem HRow.below {w w' : World} {v : Value} {L : List Hs} (h : HRow w v L) (hb : Below w.heap.size w w') : HRow w' v L := by
  rcases h with h | ⟨b, off, cap, h1, h2, h3⟩
  · exact .inl h
  · by_cases hL : 0 < L.length
    · exact .inr ⟨b, off, cap, h1, h2, rangeAt_below h3 hb (rangeAt_lt h3 hL)⟩
    · have : L = [] := List.eq_nil_of_length_eq_zero (by omega)
      subst this
      exact .inl ⟨_, _, h1, rfl, fun h => by cases h⟩
theorem HRow.of_owns {w : World} {base n : Nat} {v : Value} {L : List Hs} (h : w.ownsRow base 50 32 v n (flatH L)) : HRow w v L := by
  have hn : n = L.length := by have := h.1; rw [flatH_len] at this; omega
  subst hn
  rcases h.2 with ⟨rfl, h0⟩ | ⟨g, cap, cur, rfl, _, hg, hc, _, _, ht⟩
  · exact .inl ⟨none, 0, rfl, List.eq_nil_of_length_eq_zero h0, fun _ => rfl⟩
  · refine .inr ⟨g, 0, cap, rfl, hc, fun j v hv => ?_⟩
    rw [Nat.zero_add, cell_of_row w g j cur 50 (0, 0) hg]
    rw [← ht, List.getElem?_take] at hv
    split at hv
    · rwa [Array.getElem?_toList] at hv
    · cases hv
theorem Tryz.size50L (h : Hs) : (Tryz.prog.info? 50).map (·.size) = some (encH h).length := by rw [encH_len]; exact Tryz.size50

theorem rangeAt_drew {w : World} {b o : Nat} {cs : List Value} (h : w.rangeAt b o cs) : w.drew.rangeAt b o cs := h

theorem Tryz.info50 : (Tryz.prog.info? 50).map (fun i => (i.zero, i.size, i.bytes)) = some (some (.agg (bytesA 32 fun _ => 0)), 32, 32) := by kernel_rfl


theorem ownsH_nil (w : World) (base : Nat) : w.ownsRow base 50 32 (.slice none 0 0) 0 (flatH []) := ⟨rfl, .inl ⟨rfl, rfl⟩⟩
theorem ownsH_block {w : World} {base : Nat} {v : Value} {n : Nat} {xs : List Value} (h : w.ownsRow base 50 32 v n xs) : ∀ k, v.ownBlock = some k → base ≤ k := by
  intro k hk
  obtain ⟨_, h2⟩ := h
  rcases h2 with ⟨rfl, _⟩ | ⟨g, cap, cur, rfl, hg, _⟩
  · simp [Value.ownBlock] at hk
  · simp [Value.ownBlock] at hk; omega


theorem ownsH_mono {w : World} {base base' n : Nat} {v : Value} {xs : List Value} (h : w.ownsRow base 50 32 v n xs) (hb : base' ≤ base) : w.ownsRow base' 50 32 v n xs := by
  refine ⟨h.1, ?_⟩
  rcases h.2 with h2 | ⟨g, cap, cur, h1, h3, h4⟩
  · exact .inl h2
  · exact .inr ⟨g, cap, cur, h1, by omega, h4⟩
theorem HRow.mk {w : World} {b off n c : Nat} {L : List Hs} (hn : n = L.length) (hc : n ≤ c) (h : w.rangeAt b off (flatH L)) : HRow w (.slice (some ⟨b, off, none⟩) n c) L := by
  subst hn
  exact .inr ⟨b, off, c, rfl, hc, h⟩




theorem Grown.step {a b c : World} {S : Nat → Prop} {o : Option Nat} (h : Grown a b S) (hg : b.grownBy c o) (ho : ∀ k, o = some k → S k ∨ a.heap.size ≤ k) : Grown a c S :=
  ⟨hg.os.trans h.os, hg.tape.trans h.tape, hg.output.trans h.output, Nat.le_trans h.size hg.size, fun i hi hs => (hg.block i (Nat.lt_of_lt_of_le hi h.size) (fun e => by
    rcases ho i e.symm with h1 | h1
    · exact hs h1
    · omega)).trans (h.block i hi hs)⟩
theorem rangeAt_grown {w w' : World} {b off : Nat} {cs : List Value} {S : Nat → Prop} (h : w.rangeAt b off cs) (hg : Grown w w' S) (hs : ¬ S b) : w'.rangeAt b off cs := fun j v hv => by
  have h1 := h j v hv
  rw [World.cell?_of_block (hg.block b (cell_lt h1) hs)]; exact h1
theorem HRow.grown {w w' : World} {v : Value} {L : List Hs} {S : Nat → Prop} (h : HRow w v L) (hg : Grown w w' S) (hs : ∀ b o n c, v = .slice (some ⟨b, o, none⟩) n c → ¬ S b) : HRow w' v L := by
  rcases h with h | ⟨b, off, cap, h1, h2, h3⟩
  · exact .inl h
  · exact .inr ⟨b, off, cap, h1, h2, rangeAt_grown h3 hg (hs _ _ _ _ h1)⟩
theorem wp_appH {o : Oper} {a : Act} {w : World} {K : Act → World → Prop} {Q : Exit → Act → World → Prop} (s x : Operand)
    (ho : o.op = .call { callee := .builtin .append, args := #[s, x], argTypes := #[25, 25] }) (base : Nat) (v vx : Value) (L M : List Hs)
    (hs : a.eval s = v) (hx : a.eval x = vx) (hown : w.ownsRow base 50 32 v L.length (flatH L)) (hrow : HRow w vx M) (hb : L.length + M.length ≤ 4398046511104) (hbase : base ≤ w.heap.size)
    (h : ∀ v' w', w'.ownsRow base 50 32 v' (L ++ M).length (flatH (L ++ M)) → w.grownBy w' v.ownBlock → K (a.put o.dst v') w') : o.wp Tryz.prog a w K Q := by
  obtain ⟨i, hi, hzz⟩ := Option.map_eq_some_iff.1 Tryz.info50
  simp only [Prod.mk.injEq] at hzz
  obtain ⟨hz, hsz, hby⟩ := hzz
  have hzs : (Value.agg (bytesA 32 fun _ => 0)).cells.size = 32 := by show (bytesA 32 fun _ => 0).size = 32; exact bytesA_size _ _
  rw [flatH_app, List.length_append] at h
  rcases hrow with ⟨ad, c, rfl, rfl, hac⟩ | ⟨b, off, cap, rfl, hcap, hc⟩
  · cases ad with
    | none =>
      obtain rfl := hac rfl
      have hrun := run_append_owned_none (P := Tryz.prog) (w := w) base 25 o.type 50 i 32 Tryz.underlying25 hi v L.length _ hown
      unfold Oper.wp execOp
      simp only [ho, resolve, invoke, builtin, Sem.run_bind, Sem.run_pure, Result.andThen_ok, List.map_toArray, List.map_cons, List.map_nil, hs, hx, hrun]
      refine h v w ?_ (World.grownBy.refl w _)
      simpa [flatH_nil] using hown
    | some ad =>
      refine wp_append_own w s x 25 ho base 50 i _ 32 32 Tryz.underlying25 hi hz hsz hby hzs (by omega) v L.length _ hs hown ad 0 c [] hx rfl (fun j u hu => by simp at hu) (fun u hu => by simp at hu) (by unfold maxLen; simp at hb; omega) (by simp at hb; omega) hbase ?_
      intro v' w' h1 h2 _
      exact h v' w' h1 h2
  · refine wp_append_own w s x 25 ho base 50 i _ 32 32 Tryz.underlying25 hi hz hsz hby hzs (by omega) v L.length _ hs hown ⟨b, off, none⟩ M.length cap (flatH M) hx (flatH_len M)
      (fun j u hu => by rw [Addr.add_mid]; exact hc j u hu) (flatH_one M) (by unfold maxLen; omega) (by omega) hbase ?_
    intro v' w' h1 h2 _
    exact h v' w' h1 h2

end Go.Proofs.YtdkhjeofjhcceaaGreatDoor
namespace Go.Proofs.YtdkhjeofjhcceaaGreatDoor

namespace Hs
end Hs

def cmpG (a b : Nat → Int) : Nat → Nat → Int
  | 0, _ => 0
  | n + 1, i => if a i < b i then -1 else if b i < a i then 1 else cmpG a b n (i + 1)

theorem cmpG_neg (a b : Nat → Int) : ∀ n i, cmpG a b n i < 0 ↔ ∃ j, i ≤ j ∧ j < i + n ∧ (∀ k, i ≤ k → k < j → a k = b k) ∧ a j < b j
  | 0, i => by simp [cmpG]; omega
  | n + 1, i => by
    unfold cmpG
    by_cases h1 : a i < b i
    · simp only [h1, if_true]
      exact ⟨fun _ => ⟨i, by omega, by omega, fun k _ _ => by omega, h1⟩, fun _ => by omega⟩
    · by_cases h2 : b i < a i
      · simp only [h1, h2, if_false, if_true]
        refine ⟨fun h => by omega, ?_⟩
        rintro ⟨j, hj, _, he, hl⟩
        rcases Nat.lt_or_eq_of_le hj with h | h
        · have := he i (by omega) h; omega
        · subst h; omega
      · simp only [h1, h2, if_false]
        rw [cmpG_neg a b n (i + 1)]
        constructor
        · rintro ⟨j, hj, hn, he, hl⟩
          refine ⟨j, by omega, by omega, fun k hk hkj => ?_, hl⟩
          rcases Nat.lt_or_eq_of_le hk with h | h
          · exact he k (by omega) hkj
          · subst h; omega
        · rintro ⟨j, hj, hn, he, hl⟩
          rcases Nat.lt_or_eq_of_le hj with h | h
          · exact ⟨j, by omega, by omega, fun k hk hkj => he k (by omega) hkj, hl⟩
          · subst h; omega
theorem cmpG_zero (a b : Nat → Int) : ∀ n i, cmpG a b n i = 0 ↔ ∀ k, i ≤ k → k < i + n → a k = b k
  | 0, i => by simp [cmpG]; omega
  | n + 1, i => by
    unfold cmpG
    by_cases h1 : a i < b i
    · simp only [h1, if_true]
      exact ⟨fun h => by omega, fun h => by have := h i (by omega) (by omega); omega⟩
    · by_cases h2 : b i < a i
      · simp only [h1, h2, if_false, if_true]
        exact ⟨fun h => by omega, fun h => by have := h i (by omega) (by omega); omega⟩
      · simp only [h1, h2, if_false]
        rw [cmpG_zero a b n (i + 1)]
        constructor
        · intro h k hk hn
          rcases Nat.lt_or_eq_of_le hk with h' | h'
          · exact h k (by omega) (by omega)
          · subst h'; omega
        · intro h k hk hn
          exact h k (by omega) (by omega)
theorem cmpG_eq_skip (a b : Nat → Int) : ∀ i n, (∀ k, k < i → a k = b k) → i ≤ n → cmpG a b n 0 = cmpG a b (n - i) i := by
  intro i
  induction i with
  | zero => intro n _ _; rfl
  | succ i ih =>
    intro n h hn
    rw [ih n (fun k hk => h k (by omega)) (by omega)]
    obtain ⟨m, hm⟩ : ∃ m, n - i = m + 1 := ⟨n - i - 1, by omega⟩
    rw [hm, show n - (i + 1) = m by omega]
    have := h i (by omega)
    rw [cmpG, if_neg (by omega), if_neg (by omega)]
theorem cmpG_at (a b : Nat → Int) (i n : Nat) (h : ∀ k, k < i → a k = b k) (hi : i < n) (hne : a i ≠ b i) : cmpG a b n 0 = if a i < b i then -1 else 1 := by
  rw [cmpG_eq_skip a b i n h (by omega)]
  obtain ⟨m, hm⟩ : ∃ m, n - i = m + 1 := ⟨n - i - 1, by omega⟩
  rw [hm, cmpG]
  by_cases h1 : a i < b i
  · rw [if_pos h1, if_pos h1]
  · rw [if_neg h1, if_neg h1, if_pos (by omega)]

def cf (x y : Hs) : Int := cmpG x.f y.f 32 0
def Lt (x y : Hs) : Prop := cf x y < 0
theorem cf_zero (x y : Hs) : cf x y = 0 ↔ x = y := by
  unfold cf
  rw [cmpG_zero]
  constructor
  · intro h; exact Hs.ext' fun i hi => h i (by omega) (by omega)
  · rintro rfl; intros; rfl
theorem Lt.trans {x y z : Hs} (h1 : Lt x y) (h2 : Lt y z) : Lt x z := by
  unfold Lt cf at *
  rw [cmpG_neg] at *
  obtain ⟨i, _, hi, hie, hil⟩ := h1
  obtain ⟨j, _, hj, hje, hjl⟩ := h2
  rcases Nat.lt_trichotomy i j with h | h | h
  · exact ⟨i, by omega, hi, fun k hk hki => (hie k hk hki).trans (hje k hk (by omega)), by rw [← hje i (by omega) h]; exact hil⟩
  · subst h; exact ⟨i, by omega, hi, fun k hk hki => (hie k hk hki).trans (hje k hk hki), by omega⟩
  · exact ⟨j, by omega, hj, fun k hk hkj => (hie k hk (by omega)).trans (hje k hk hkj), by rw [hie j (by omega) h]; exact hjl⟩
theorem Lt.irrefl (x : Hs) : ¬ Lt x x := by
  have := (cf_zero x x).2 rfl
  unfold Lt; omega
theorem Lt.ne {x y : Hs} (h : Lt x y) : x ≠ y := fun e => Lt.irrefl x (e ▸ h)



end Go.Proofs.YtdkhjeofjhcceaaGreatDoor
namespace Go.Proofs.YtdkhjeofjhcceaaGreatDoor
open Go.RowKit Go.Sort

theorem grown_below (w : World) (q : Nat) (os : Array Obj) : Below w.heap.size w (grow (w.drewN q) os) where
  os := rfl
  tape := rfl
  output := rfl
  size := by simp [grow]
  block i hi := by simp [grow, Array.getElem?_append, hi]

theorem drewN_grown {w w0 : World} (h : ∃ os, w0 = grow w os) (k : Nat) : ∃ q os, w0.drewN k = grow (w.drewN q) os := by
  obtain ⟨os, rfl⟩ := h
  exact ⟨k, os, rfl⟩

set_option maxRecDepth 8000 in
set_option maxHeartbeats 400000 in
theorem cmpByte_any (a b : Int) (w : World) : Calls Tryz.prog 104 #[.int .u8 a, .int .u8 b] w fun e w' => e = .returned (.int .i64 (if a < b then -1 else if b < a then 1 else 0)) ∧ ∃ q, w' = w.drewN q := by
  have h52 : ∀ (z : Int) (w : World), Calls Tryz.prog 125 #[.int .u8 z] w fun e w' => e = .returned (.bool false) ∧ ∃ q, w' = w.drewN q := by
    intro z w
    go_enter Tryz.func125, Tryz.ntmps125
    go_wp2
    first
      | (go_quiet (fail); go_wp2; go_ret; exact ⟨rfl, nq, rfl⟩)
      | (go_ret; exact ⟨rfl, 0, rfl⟩)
  have walk : ∀ r : Int, (a < b ∧ r = -1) ∨ (¬ a < b ∧ b < a ∧ r = 1) ∨ (¬ a < b ∧ ¬ b < a ∧ r = 0) → Calls Tryz.prog 104 #[.int .u8 a, .int .u8 b] w fun e w' => e = .returned (.int .i64 r) ∧ ∃ q, w' = w.drewN q := by
    intro r hr
    have HR : Keep ((a < b ∧ r = -1) ∨ (¬ a < b ∧ b < a ∧ r = 1) ∨ (¬ a < b ∧ ¬ b < a ∧ r = 0)) := ⟨hr⟩
    clear hr
    go_enter Tryz.func104, Tryz.ntmps104
    go_wp2_with fail
    refine (h52 a w).mono ?_
    rintro e w1 ⟨rfl, q1, rfl⟩
    go_wp2_with fail
    refine (h52 b _).mono ?_
    rintro e w2 ⟨rfl, q2, rfl⟩
    rw [World.drewN_drewN]
    rcases HR.out with ⟨h1, rfl⟩ | ⟨h1, h2, rfl⟩ | ⟨h1, h2, rfl⟩
    · go_wp2
      go_ret
      exact ⟨rfl, _, rfl⟩
    · go_wp2
      go_ret
      exact ⟨rfl, _, rfl⟩
    · go_wp2
      go_ret
      exact ⟨rfl, _, rfl⟩
  refine walk _ ?_
  by_cases h1 : a < b
  · exact .inl ⟨h1, if_pos h1⟩
  · by_cases h2 : b < a
    · exact .inr (.inl ⟨h1, h2, by rw [if_neg h1, if_pos h2]⟩)
    · exact .inr (.inr ⟨h1, h2, by rw [if_neg h1, if_neg h2]⟩)


set_option maxRecDepth 8000 in
set_option maxHeartbeats 400000 in
set_option maxRecDepth 20000 in
theorem compare_walk (A B : Array Value) (x y : Nat → Int) (E : Bool) (w : World) (hA : ∀ t, t < 32 → A[t]? = some (.int .u8 (x t))) (hB : ∀ t, t < 32 → B[t]? = some (.int .u8 (y t))) (hAs : A.size = 32) (hBs : B.size = 32)
    (heq : ∀ w, (binOp .eql 50 (.agg A) (.agg B)).run Tryz.prog w = .ok (.bool E) w) (hE1 : E = true → cmpG x y 32 0 = 0) (hE2 : E = false → ∃ t, t < 32 ∧ x t ≠ y t) :
    Calls Tryz.prog 80 #[.agg A, .agg B] w fun e w' => e = .returned (.int .i64 (cmpG x y 32 0)) ∧ ∃ q os, w' = grow (w.drewN q) os := by
  have HA : Keep (∀ t, t < 32 → A[t]? = some (.int .u8 (x t))) := ⟨hA⟩
  have HB : Keep (∀ t, t < 32 → B[t]? = some (.int .u8 (y t))) := ⟨hB⟩
  obtain ⟨r, hr⟩ : ∃ r, Keep (r = cmpG x y 32 0) := ⟨_, ⟨rfl⟩⟩
  rw [← hr.out] at hE1 ⊢
  have H1 : Keep (E = true → r = 0) := ⟨hE1⟩
  have H2 : Keep (E = false → ∃ t, t < 32 ∧ x t ≠ y t) := ⟨hE2⟩
  have hi1 : (Tryz.prog.info? 50).map (·.size) = some A.size := by rw [hAs]; exact Tryz.size50
  have hi2 : (Tryz.prog.info? 50).map (·.size) = some B.size := by rw [hBs]; exact Tryz.size50
  clear hE1 hE2 hA hB
  have hA1 : (w.alloc (.cells A 50)).heap.size = w.heap.size + 1 := by simp
  have hX : Blk ((w.alloc (.cells A 50)).alloc (.cells B 50)) w.heap.size 50 A := (Blk.new w 50 _).alloc _
  have hY : Blk ((w.alloc (.cells A 50)).alloc (.cells B 50)) (w.heap.size + 1) 50 B := by rw [← hA1]; exact Blk.new _ 50 _
  have hG : (w.alloc (.cells A 50)).alloc (.cells B 50) = grow (w.drewN 0) #[.cells A 50, .cells B 50] := by
    rw [alloc_eq_grow, alloc_eq_grow, grow_grow]; rfl
  have HG : Keep (∃ os, (w.alloc (.cells A 50)).alloc (.cells B 50) = grow w os) := ⟨_, hG⟩
  clear hA1 hG
  go_enter Tryz.func80, Tryz.ntmps80
  go_wp2_with (first | (refine wpList_boxA rfl 50 (.tmp 0) rfl A rfl ?_; refine wpList_boxA rfl 50 (.tmp 1) rfl B rfl ?_) | (refine wpList_load_row rfl 50 (.tmp 2) rfl w.heap.size rfl 50 A (0, 0) (.array 32 5) hX Tryz.underlying50 rfl hi1 ?_; refine wpList_load_row rfl 50 (.tmp 3) rfl (w.heap.size + 1) rfl 50 B (0, 0) (.array 32 5) hY Tryz.underlying50 rfl hi2 ?_))
  · go_ret
    have := H1.out (by assumption)
    obtain ⟨os, hos⟩ := HG.out
    exact ⟨by rw [this]; rfl, 0, os, by rw [hos]; rfl⟩
  · have hE : E = false := by first | assumption | (cases E <;> simp_all)
    obtain ⟨d, hd, hne⟩ := H2.out hE
    have HN : Keep (x d ≠ y d) := ⟨hne⟩
    clear hne
    generalize (w.alloc (.cells A 50)).alloc (.cells B 50) = w0 at *
    generalize w.heap.size = p at *
    go_loopw [5] (fun i wr => ∃ t n : Nat, t ≤ d ∧ i = .int .i64 (t : Int) ∧ (∀ k, k < t → x k = y k) ∧ wr = w0.drewN n) (fun i _ => d - (intOf i).toNat)
    case atStart => exact ⟨0, 0, by omega, rfl, fun k hk => by omega, by rw [World.drewN_zero]⟩
    case round =>
      obtain ⟨t, n, ht, rfl, hke, rfl⟩ := hrel
      have HK : Keep (∀ k, k < t → x k = y k) := ⟨hke⟩
      clear hke
      have c1 : (w0.drewN n).cell? ⟨p, t, none⟩ = some (.int .u8 (x t)) := by rw [World.cell?_drewN, hX.cell]; exact HA.out t (by omega)
      have c2 : (w0.drewN n).cell? ⟨p + 1, t, none⟩ = some (.int .u8 (y t)) := by rw [World.cell?_drewN, hY.cell]; exact HB.out t (by omega)
      obtain ⟨a, ha⟩ : ∃ a, Keep (x t = a) := ⟨_, ⟨rfl⟩⟩
      obtain ⟨b, hb⟩ : ∃ b, Keep (y t = b) := ⟨_, ⟨rfl⟩⟩
      rw [ha.out] at c1
      rw [hb.out] at c2
      obtain ⟨wn, hwn⟩ : ∃ wn, Keep (w0.drewN n = wn) := ⟨_, ⟨rfl⟩⟩
      rw [hwn.out] at c1 c2 ⊢
      have ht32 : (t : Int) < 32 := by omega
      go_wp2
      go_quiet (fail)
      by_cases hab : a = b
      · have htd : t ≠ d := fun e => by subst e; exact HN.out (by rw [ha.out, hb.out, hab])
        go_wp2
        go_roundw
        case rel => exact ⟨t + 1, n + nq, by omega, by go_num, fun k hk => by
          rcases Nat.lt_or_eq_of_le (Nat.le_of_lt_succ hk) with h | h
          · exact HK.out k h
          · subst h; rw [ha.out, hb.out, hab], by rw [← hwn.out, World.drewN_drewN]⟩
        case measure => simp [intOf]; omega
      · have hra : Keep (r = (if a < b then -1 else if b < a then 1 else 0)) := ⟨by
          rw [hr.out, cmpG_at x y t 32 HK.out (by omega) (by rw [ha.out, hb.out]; exact hab), ha.out, hb.out]
          by_cases h1 : a < b
          · rw [if_pos h1, if_pos h1]
          · rw [if_neg h1, if_neg h1, if_pos (by omega)]⟩
        have hcb : ∀ w, Calls Tryz.prog 104 #[.int .u8 a, .int .u8 b] w fun e w' => e = .returned (.int .i64 r) ∧ ∃ q, w' = w.drewN q := fun w => by rw [hra.out]; exact cmpByte_any a b w
        have d1 : (wn.drewN nq).cell? ⟨p, t, none⟩ = some (.int .u8 a) := by rw [World.cell?_drewN]; exact c1
        have d2 : (wn.drewN nq).cell? ⟨p + 1, t, none⟩ = some (.int .u8 b) := by rw [World.cell?_drewN]; exact c2
        obtain ⟨wm, hwm⟩ : ∃ wm, Keep (wn.drewN nq = wm) := ⟨_, ⟨rfl⟩⟩
        go_wp2
        rw [hwm.out] at d1 d2 ⊢
        go_quiet (first | (go_at_call 104; refine Calls.quiet_of (hcb _)))
        go_wp2
        go_ret
        refine ⟨rfl, ?_⟩
        rw [← hwm.out, ← hwn.out, World.drewN_drewN, World.drewN_drewN]
        exact drewN_grown HG.out _

theorem compare_any (x y : Hs) (w : World) : Calls Tryz.prog 80 #[.agg (bytesA 32 x.f), .agg (bytesA 32 y.f)] w fun e w' => e = .returned (.int .i64 (cf x y)) ∧ ∃ q os, w' = grow (w.drewN q) os :=
  compare_walk (bytesA 32 x.f) (bytesA 32 y.f) x.f y.f (decide (x = y)) w (fun _ ht => bytesA_get _ _ _ ht) (fun _ ht => bytesA_get _ _ _ ht) (bytesA_size _ _) (bytesA_size _ _) (run_eqlH x y)
    (fun h => (cf_zero x y).2 (of_decide_eq_true h)) (fun h => Classical.byContradiction fun hc => of_decide_eq_false h (Hs.ext' fun i hi => Classical.byContradiction fun hn => hc ⟨i, hi, hn⟩))


def risesB (L : List Hs) : Bool := (List.range (L.length - 1)).all fun i => decide (cf (L.getD i default) (L.getD (i + 1) default) < 0)
theorem risesB_iff (L : List Hs) : risesB L = true ↔ ∀ i, i + 1 < L.length → cf (L.getD i default) (L.getD (i + 1) default) < 0 := by
  unfold risesB
  rw [List.all_eq_true]
  constructor
  · intro h i hi
    exact of_decide_eq_true (h i (List.mem_range.2 (by omega)))
  · intro h i hi
    exact decide_eq_true (h i (by have := List.mem_range.1 hi; omega))
theorem Tryz.enter80 (w : World) (vs : Array Value) : (callFunc 80 vs).run Tryz.prog w = .ok (.enter 80 vs) w := by kernel_rfl

set_option maxRecDepth 8000 in
set_option maxHeartbeats 1000000 in
theorem rising_walk (n b o c : Nat) (L : List Hs) (w : World) (hL : L.length = n) (h1 : w.rangeAt b o (flatH L)) (hn : (n : Int) ≤ 9223372036854775806) (h0 : 0 < n) :
    Calls Tryz.prog 89 #[.slice (some ⟨b, o, none⟩) n c] w fun e w' => e = .returned (.bool (risesB L)) ∧ Below w.heap.size w w' := by
  obtain ⟨R, hR⟩ : ∃ R, Keep (R = risesB L) := ⟨_, ⟨rfl⟩⟩
  rw [← hR.out]
  have HL : Keep (L.length = n) := ⟨hL⟩
  have H1 : Keep (w.rangeAt b o (flatH L)) := ⟨h1⟩
  have hblt : b < w.heap.size := rangeAt_lt h1 (by omega)
  have hu := Tryz.underlying50
  clear hL h1
  go_enter Tryz.func89, Tryz.ntmps89
  go_wp2
  go_loopw [3] (fun i wr => ∃ t : Nat, t + 1 ≤ n ∧ i = .int .i64 ((t + 1 : Nat) : Int) ∧ (∀ k, k < t → cf (L.getD k default) (L.getD (k + 1) default) < 0) ∧ Below w.heap.size w wr) (fun i _ => n - (intOf i).toNat)
  case atStart => exact ⟨0, by omega, rfl, fun k hk => by omega, Below.refl _ _⟩
  case round =>
    obtain ⟨t, ht, rfl, hke, hB⟩ := hrel
    have HK : Keep (∀ k, k < t → cf (L.getD k default) (L.getD (k + 1) default) < 0) := ⟨hke⟩
    clear hke
    by_cases hlt : t + 1 < n
    · have l1 : t < L.length := by rw [HL.out]; omega
      have l2 : t + 1 < L.length := by rw [HL.out]; exact hlt
      have HC : Keep (∀ w, Calls Tryz.prog 80 #[.agg (encH L[t]).toArray, .agg (encH L[t + 1]).toArray] w fun e w' => e = .returned (.int .i64 (cf L[t] L[t + 1])) ∧ Below w.heap.size w w') := ⟨fun w => by
        rw [encH_arr, encH_arr]
        refine (compare_any _ _ w).mono fun e w' h => ⟨h.1, ?_⟩
        obtain ⟨q, os, rfl⟩ := h.2
        exact grown_below w q os⟩
      have HS : Keep (∀ wx, Below wr.heap.size wr wx → wx.rangeAt b (o + t * 32) (encH L[t]) ∧ wx.rangeAt b (o + (t + 1) * 32) (encH L[t + 1])) := ⟨fun wx hx => by
        have hb2 := hB.trans (hx.mono hB.size)
        exact ⟨rangeAt_below (rangeAt_elem H1.out t l1) hb2 hblt, rangeAt_below (rangeAt_elem H1.out (t + 1) l2) hb2 hblt⟩⟩
      have hi1 := Tryz.size50L L[t]
      have hi2 := Tryz.size50L L[t + 1]
      obtain ⟨r, hr⟩ : ∃ r, Keep (r = cf L[t] L[t + 1]) := ⟨_, ⟨rfl⟩⟩
      rw [← hr.out] at HC
      have HE : Keep (r = cf (L.getD t default) (L.getD (t + 1) default)) := ⟨by
        rw [hr.out, List.getD_eq_getElem?_getD, List.getD_eq_getElem?_getD, List.getElem?_eq_getElem l1, List.getElem?_eq_getElem l2]; rfl⟩
      clear hr
      generalize encH L[t] = CA at *
      generalize encH L[t + 1] = CB at *
      clear l1 l2
      rename World => wn
      have hD0 : Below wn.heap.size wn wn.drew := (Below.refl _ _).drew
      have hlt' : ((t + 1 : Nat) : Int) < (n : Int) := by omega
      have hs1 : ((t + 1 : Nat) : Int) - 1 = (t : Int) := by omega
      have hlt2 : (t : Int) < (n : Int) := by omega
      have hwr : IntKind.i64.wrap (t : Int) = (t : Int) := by rw [IntKind.wrap_i64]; omega
      have hng : ¬ ((t : Int) + 1 < 0) := by omega
      go_wp2
      refine wp_region_held_drew (S := fun w' => w'.rangeAt b (o + t * 32) CA ∧ w'.rangeAt b (o + (t + 1) * 32) CB) (by kernel_rfl) (HS.out _ hD0) (fun hHeld => ?_)
      refine wpAnyH_take (i := 0) (oi := ⟨some 10, Op.move (Operand.tmp 0), 25, _, _, none⟩) (v := Value.slice (some ⟨b, o, none⟩) n c) rfl (by kernel_rfl) (by kernel_rfl) (by kernel_rfl) (fun _ _ _ h => h) (Or.inl ⟨by rfl, fun w hS => by go_simp⟩) hHeld ?_
      simp only [Act.put, List.setIfInBounds_toArray, List.set_cons_zero, List.set_cons_succ]
      refine wpAnyH_take (i := 1) (oi := ⟨some 11, Op.move (Operand.tmp 3), 3, _, _, none⟩) (v := .int .i64 ((t + 1 : Nat) : Int)) rfl (by kernel_rfl) (by kernel_rfl) (by kernel_rfl) (fun _ _ _ h => h) (Or.inl ⟨by rfl, fun w hS => by go_simp⟩) hHeld ?_
      simp only [Act.put, List.setIfInBounds_toArray, List.set_cons_zero, List.set_cons_succ]
      refine wpAnyH_take (i := 2) (oi := ⟨some 12, Op.binOp BinOp.sub 3 (Operand.tmp 11) (Operand.const (Value.int IntKind.i64 1)) 3, 3, _, _, none⟩) (v := .int .i64 (t : Int)) rfl (by kernel_rfl) (by kernel_rfl) (by kernel_rfl) (fun _ _ _ h => h) (Or.inl ⟨by rfl, fun w hS => by go_simp⟩) hHeld ?_
      simp only [Act.put, List.setIfInBounds_toArray, List.set_cons_zero, List.set_cons_succ]
      refine wpAnyH_take (i := 3) (oi := ⟨some 13, Op.indexAddr 25 (Operand.tmp 10) (Operand.tmp 12), 0, _, _, none⟩) (v := .pointer (some ⟨b, o + t * 32, none⟩)) rfl (by kernel_rfl) (by kernel_rfl) (by kernel_rfl) (fun _ _ _ h => h) (Or.inl ⟨by rfl, fun w hS => by go_simp⟩) hHeld ?_
      simp only [Act.put, List.setIfInBounds_toArray, List.set_cons_zero, List.set_cons_succ]
      refine wpAnyH_take (i := 4) (oi := ⟨some 14, Op.load 50 (Operand.tmp 13), 50, _, _, none⟩) (v := .agg (CA).toArray) rfl (by kernel_rfl) (by kernel_rfl) (by kernel_rfl) (fun _ _ _ h => h) (yieldsIf_load_mid (by rfl) 50 (Operand.tmp 13) rfl b (o + t * 32) rfl CA _ (fun w hS => hS.1) hu rfl hi1) hHeld ?_
      simp only [Act.put, List.setIfInBounds_toArray, List.set_cons_zero, List.set_cons_succ]
      refine wpAnyH_take (i := 5) (oi := ⟨some 15, Op.move (Operand.tmp 0), 25, _, _, none⟩) (v := Value.slice (some ⟨b, o, none⟩) n c) rfl (by kernel_rfl) (by kernel_rfl) (by kernel_rfl) (fun _ _ _ h => h) (Or.inl ⟨by rfl, fun w hS => by go_simp⟩) hHeld ?_
      simp only [Act.put, List.setIfInBounds_toArray, List.set_cons_zero, List.set_cons_succ]
      refine wpAnyH_take (i := 6) (oi := ⟨some 16, Op.move (Operand.tmp 3), 3, _, _, none⟩) (v := .int .i64 ((t + 1 : Nat) : Int)) rfl (by kernel_rfl) (by kernel_rfl) (by kernel_rfl) (fun _ _ _ h => h) (Or.inl ⟨by rfl, fun w hS => by go_simp⟩) hHeld ?_
      simp only [Act.put, List.setIfInBounds_toArray, List.set_cons_zero, List.set_cons_succ]
      refine wpAnyH_take (i := 7) (oi := ⟨some 17, Op.indexAddr 25 (Operand.tmp 15) (Operand.tmp 16), 0, _, _, none⟩) (v := .pointer (some ⟨b, o + (t + 1) * 32, none⟩)) rfl (by kernel_rfl) (by kernel_rfl) (by kernel_rfl) (fun _ _ _ h => h) (Or.inl ⟨by rfl, fun w hS => by go_simp⟩) hHeld ?_
      simp only [Act.put, List.setIfInBounds_toArray, List.set_cons_zero, List.set_cons_succ]
      refine wpAnyH_take (i := 8) (oi := ⟨some 18, Op.load 50 (Operand.tmp 17), 50, _, _, none⟩) (v := .agg (CB).toArray) rfl (by kernel_rfl) (by kernel_rfl) (by kernel_rfl) (fun _ _ _ h => h) (yieldsIf_load_mid (by rfl) 50 (Operand.tmp 17) rfl b (o + (t + 1) * 32) rfl CB _ (fun w hS => hS.2) hu rfl hi2) hHeld ?_
      simp only [Act.put, List.setIfInBounds_toArray, List.set_cons_zero, List.set_cons_succ]
      refine wpAnyH_ready (rs := [9]) (by kernel_rfl) (by simp) ?_
      refine AllReadyH.cons (o := ⟨some 19, Op.call { callee := Callee.value (Operand.func 80), args := #[Operand.tmp 14, Operand.tmp 18], argTypes := #[50, 50] }, 3, _, _, none⟩) rfl (fun K hK => ?_) AllReadyH.nil
      rw [if_pos (by rfl)]
      refine wp_callF 80 #[.tmp 14, .tmp 18] #[50, 50] rfl Tryz.enter80 #[.agg CA.toArray, .agg CB.toArray] (by simp [Act.eval]) (fun v w' => v = .int .i64 r ∧ Below wn.drew.heap.size wn.drew w') ((HC.out wn.drew).mono fun e w' h => ⟨_, h.1, rfl, h.2⟩) ?_
      rintro v w5 ⟨rfl, hb5⟩
      have hB5 : Below wn.heap.size wn w5 := hD0.trans (hb5.mono hD0.size)
      refine hK.out _ _ (HS.out _ hB5) fun hHeld5 => ?_
      clear hK
      simp only [Act.put, List.setIfInBounds_toArray, List.set_cons_zero, List.set_cons_succ]
      refine wpAnyH_take (i := 10) (oi := ⟨some 20, Op.binOp BinOp.geq 3 (Operand.tmp 19) (Operand.const (Value.int IntKind.i64 0)) 3, 4, _, _, none⟩) (v := .bool (decide (0 ≤ r))) rfl (by kernel_rfl) (by kernel_rfl) (by kernel_rfl) (fun _ _ _ h => h) (Or.inl ⟨by rfl, fun w hS => by go_simp⟩) hHeld5 ?_
      simp only [Act.put, List.setIfInBounds_toArray, List.set_cons_zero, List.set_cons_succ]
      refine wpAnyH_done (by kernel_rfl) ?_ _
      have hBn : Below w.heap.size w w5 := hB.trans (hB5.mono hB.size)
      by_cases hr0 : 0 ≤ r
      · have HF : Keep (R = false) := ⟨by
          rw [hR.out, Bool.eq_false_iff]; intro h
          have := (risesB_iff L).1 h t (by rw [HL.out]; exact hlt)
          rw [← HE.out] at this; omega⟩
        go_wp2
        go_ret
        exact ⟨by rw [HF.out]; rfl, hBn⟩
      · have HE2 : Keep (cf (L.getD t default) (L.getD (t + 1) default) < 0) := ⟨by rw [← HE.out]; omega⟩
        go_wp2
        go_roundw
        case rel => exact ⟨t + 1, by omega, by go_num, fun k hk => by
            rcases Nat.lt_or_eq_of_le (Nat.le_of_lt_succ hk) with h | h
            · exact HK.out k h
            · subst h; exact HE2.out, hBn⟩
        case measure => simp [intOf]; omega
    · obtain rfl : t + 1 = n := by omega
      go_wp2
      go_ret
      refine ⟨?_, hB⟩
      rw [hR.out, (risesB_iff L).2 fun i hi => HK.out i (by have := HL.out; omega)]
      rfl
set_option maxRecDepth 8000 in
set_option maxHeartbeats 400000 in
theorem rising_none (a1 : Option Addr) (c1 : Nat) (w : World) : Calls Tryz.prog 89 #[.slice a1 0 c1] w fun e w' => e = .returned (.bool true) ∧ w' = w := by
  go_enter Tryz.func89, Tryz.ntmps89
  go_wp2
  refine wp_loop_rounds 1 ?_; rw [rounds_succ]
  go_wp2
  go_ret
  exact ⟨rfl, rfl⟩
theorem rising_any (v : Value) (L : List Hs) (w : World) (h : HRow w v L) (hn : (L.length : Int) ≤ 9223372036854775806) :
    Calls Tryz.prog 89 #[v] w fun e w' => e = .returned (.bool (risesB L)) ∧ Below w.heap.size w w' := by
  obtain ⟨a1, c1, rfl⟩ := h.form
  by_cases h0 : 0 < L.length
  · obtain ⟨b1, o1, rfl, _, _, r1⟩ := h.at h0
    exact rising_walk L.length b1 o1 c1 L w rfl r1 hn h0
  · have e1 : L = [] := List.eq_nil_of_length_eq_zero (by omega)
    subst e1
    exact (rising_none a1 c1 w).mono fun e w' h => ⟨by rw [h.1, (risesB_iff []).2 fun i hi => by simp at hi], by rw [h.2]; exact Below.refl _ _⟩

end Go.Proofs.YtdkhjeofjhcceaaGreatDoor
namespace Go.Proofs.YtdkhjeofjhcceaaGreatDoor
open Go.RowKit
set_option linter.unusedSimpArgs false
set_option linter.unusedVariables false

structure VX where
  id : Hs
  ck : Int
  ps : List Hs
def vtx (c : Nat → Int) (k : Int) (p : Value) : Array Value := bytesA 32 c ++ #[.int .i64 k, p]
theorem vtx_size (c : Nat → Int) (k : Int) (p : Value) : (vtx c k p).size = 34 := by simp [vtx, bytesA_size]
theorem vtx_ck (c : Nat → Int) (k : Int) (p : Value) : (vtx c k p)[32]? = some (.int .i64 k) := by simp [vtx, Array.getElem?_append, bytesA_size]
theorem vtx_ps (c : Nat → Int) (k : Int) (p : Value) : (vtx c k p)[33]? = some p := by simp [vtx, Array.getElem?_append, bytesA_size]
theorem vtx_one (c : Nat → Int) (k : Int) (p : Value) (hp : p.oneCell' = true) : (vtx c k p).all (·.oneCell') = true := by
  have := bytesA_one 32 c
  simp only [vtx, Array.all_append, this, Bool.true_and]
  have h2 : (Value.int IntKind.i64 k).oneCell' = true := rfl
  rw [← Array.all_toList]
  simp only [List.all_cons, List.all_nil, hp, h2, Bool.and_self]
theorem Tryz.size61 : (Tryz.prog.info? 61).map (·.size) = some 34 := by kernel_rfl
theorem Tryz.new61 (w : World) : (Instr.alloc 61 true (.tuple #[])).run Tryz.prog w = .ok (.pointer (some ⟨w.heap.size, 0, none⟩)) (w.alloc (.cells (vtx (fun _ => 0) 0 (.slice none 0 0)) 61)) := by kernel_rfl
theorem Tryz.chk (em : Bool) (c : Nat → Int) (w : World) : (Instr.checkKey em 10000 50 (.agg (bytesA 32 c))).run Tryz.prog w = .ok () w := by cases em <;> kernel_rfl

def isV (x : Hs) (v : VX) : Bool := decide (x = v.id)
def EntAt (w : World) (Av : Nat → Prop) (v : VX) (e : MapEntry) : Prop :=
  e.key = .agg (bytesA 32 v.id.f) ∧ ∃ p, e.val = .agg (vtx v.id.f v.ck p) ∧ HRow w p v.ps ∧ ∀ k, p.ownBlock = some k → k < w.heap.size ∧ ¬ Av k
def Ents (w : World) (Av : Nat → Prop) : List VX → List MapEntry → Prop
  | [], [] => True
  | v :: l, e :: es => EntAt w Av v e ∧ Ents w Av l es
  | _, _ => False
def MpAt (w : World) (Av : Nat → Prop) (b : Nat) (l : List VX) : Prop := ∃ es ck, w.heap[b]? = some (.map es ck) ∧ Ents w Av l es.toList
theorem EntAt.grown {w w' : World} {Av Av' S : Nat → Prop} {v : VX} {e : MapEntry} (h : EntAt w Av v e) (hg : Grown w w' S) (hS : ∀ k, k < w.heap.size → S k → Av k) (hA : ∀ k, k < w.heap.size → Av' k → Av k) : EntAt w' Av' v e := by
  obtain ⟨h1, p, h2, h3, h4⟩ := h
  refine ⟨h1, p, h2, h3.grown hg fun b o n c e1 hs => ?_, fun k hk => ⟨Nat.lt_of_lt_of_le (h4 k hk).1 hg.size, fun ha => (h4 k hk).2 (hA k (h4 k hk).1 ha)⟩⟩
  have := h4 b (by rw [e1]; rfl)
  exact this.2 (hS b this.1 hs)
theorem Ents.grown {w w' : World} {Av Av' S : Nat → Prop} (hg : Grown w w' S) (hS : ∀ k, k < w.heap.size → S k → Av k) (hA : ∀ k, k < w.heap.size → Av' k → Av k) : ∀ {l : List VX} {es : List MapEntry}, Ents w Av l es → Ents w' Av' l es
  | [], [], _ => trivial
  | _ :: _, _ :: _, h => ⟨h.1.grown hg hS hA, Ents.grown hg hS hA h.2⟩
  | [], _ :: _, h => h.elim
  | _ :: _, [], h => h.elim
theorem Ents.len {w : World} {Av : Nat → Prop} : ∀ {l : List VX} {es : List MapEntry}, Ents w Av l es → es.length = l.length
  | [], [], _ => rfl
  | _ :: _, _ :: _, h => by simp [Ents.len h.2]
  | [], _ :: _, h => h.elim
  | _ :: _, [], h => h.elim
theorem Ents.app {w : World} {Av : Nat → Prop} {v : VX} {e : MapEntry} (he : EntAt w Av v e) : ∀ {l : List VX} {es : List MapEntry}, Ents w Av l es → Ents w Av (l ++ [v]) (es ++ [e])
  | [], [], _ => ⟨he, trivial⟩
  | _ :: _, _ :: _, h => ⟨h.1, Ents.app he h.2⟩
  | [], _ :: _, h => h.elim
  | _ :: _, [], h => h.elim
theorem MpAt.grown {w w' : World} {Av Av' S : Nat → Prop} {b : Nat} {l : List VX} (h : MpAt w Av b l) (hg : Grown w w' S) (hb : ¬ S b) (hS : ∀ k, k < w.heap.size → S k → Av k) (hA : ∀ k, k < w.heap.size → Av' k → Av k) : MpAt w' Av' b l := by
  obtain ⟨es, ck, h1, h2⟩ := h
  exact ⟨es, ck, by rw [hg.block b (Array.getElem?_eq_some_iff.1 h1).1 hb]; exact h1, h2.grown hg hS hA⟩
theorem MpAt.lt {w : World} {Av : Nat → Prop} {b : Nat} {l : List VX} (h : MpAt w Av b l) : b < w.heap.size := by
  obtain ⟨es, ck, h1, _⟩ := h
  exact (Array.getElem?_eq_some_iff.1 h1).1
theorem MpAt.ne {w : World} {Av : Nat → Prop} {b k : Nat} {l : List VX} {T : TypeId} {cs : Array Value} (h : MpAt w Av b l) (hb : Blk w k T cs) : k ≠ b := by
  obtain ⟨es, ck, h1, _⟩ := h
  rintro rfl
  unfold Blk at hb
  rw [h1] at hb
  cases hb
theorem Op_equal (x y : Hs) (w : World) : (Op.equal 50 (.agg (bytesA 32 x.f)) (.agg (bytesA 32 y.f))).run Tryz.prog w = .ok (decide (x = y)) w := by
  rw [← all_eq_iff]; exact run_equal_arr2 x.f y.f w
theorem find_spec {w : World} {Av : Nat → Prop} (x : Hs) : ∀ {l : List VX} {es : List MapEntry}, Ents w Av l es →
    (l.find? (isV x) = none ∧ ∀ (wx : World) i, (Instr.findAsking 50 (.agg (bytesA 32 x.f)) es i).run Tryz.prog wx = .ok none wx) ∨
    ∃ j e v, l.find? (isV x) = some v ∧ es[j]? = some e ∧ EntAt w Av v e ∧ l.eraseP (isV x) = l.eraseIdx j ∧ ∀ (wx : World) i, (Instr.findAsking 50 (.agg (bytesA 32 x.f)) es i).run Tryz.prog wx = .ok (some (i + j, e.val)) wx
  | [], [], _ => .inl ⟨rfl, fun wx i => rfl⟩
  | v :: l, e :: es, h => by
    have hk : ∀ (wx : World) i, (Instr.findAsking 50 (.agg (bytesA 32 x.f)) (e :: es) i).run Tryz.prog wx = if isV x v = true then .ok (some (i, e.val)) wx else (Instr.findAsking 50 (.agg (bytesA 32 x.f)) es (i + 1)).run Tryz.prog wx := fun wx i => by
      rw [Instr.findAsking, h.1.1, Sem.run_bind, Op_equal, Result.andThen_ok]
      show (if isV x v = true then _ else _ : Sem _).run Tryz.prog wx = _
      split <;> rfl
    by_cases hv : isV x v = true
    · refine .inr ⟨0, e, v, by simp [List.find?, hv], rfl, h.1, by simp [List.eraseP, hv], fun wx i => ?_⟩
      rw [hk, if_pos hv]; rfl
    · rcases find_spec x h.2 with ⟨h1, h2⟩ | ⟨j, e', v', h1, h2, h3, h4, h5⟩
      · refine .inl ⟨by simp [List.find?, hv, h1], fun wx i => ?_⟩
        rw [hk, if_neg hv, h2]
      · refine .inr ⟨j + 1, e', v', by simp [List.find?, hv, h1], h2, h3, by simp [List.eraseP, hv, h4], fun wx i => ?_⟩
        rw [hk, if_neg hv, h5, Nat.add_assoc, Nat.add_comm 1 j]
  | [], _ :: _, h => h.elim
  | _ :: _, [], h => h.elim
theorem findKey_eq (x : Hs) (es : List MapEntry) (w : World) : (Instr.findKey 50 (.agg (bytesA 32 x.f)) es).run Tryz.prog w = (Instr.findAsking 50 (.agg (bytesA 32 x.f)) es 0).run Tryz.prog w := by
  unfold Instr.findKey
  rw [Sem.run_bind, run_underlying Tryz.underlying50, Result.andThen_ok]
  cases es <;> rfl
theorem look1 {w : World} {Av : Nat → Prop} {b : Nat} {l : List VX} (h : MpAt w Av b l) (x : Hs) : ∃ es ck c k a n m, w.heap[b]? = some (.map es ck) ∧
    (∀ wx : World, wx.heap[b]? = some (.map es ck) → (Instr.lookup 80 (.map (some b)) (.agg (bytesA 32 x.f)) true).run Tryz.prog wx = .ok (.tuple #[.agg (vtx c k (.slice a n m)), .bool (l.find? (isV x)).isSome]) wx) ∧
    (∀ wx : World, wx.heap[b]? = some (.map es ck) → (Instr.lookup 80 (.map (some b)) (.agg (bytesA 32 x.f)) false).run Tryz.prog wx = .ok (.agg (vtx c k (.slice a n m))) wx) ∧
    ((l.find? (isV x) = none ∧ c = (fun _ => 0) ∧ k = 0 ∧ a = none ∧ n = 0 ∧ m = 0) ∨ ∃ v, l.find? (isV x) = some v ∧ c = v.id.f ∧ k = v.ck ∧ HRow w (.slice a n m) v.ps ∧ (∀ k, (Value.slice a n m).ownBlock = some k → k < w.heap.size ∧ ¬ Av k)) := by
  obtain ⟨es, ck, h1, h2⟩ := h
  rcases find_spec x h2 with ⟨e1, e2⟩ | ⟨j, e, v, e1, e2, e3, e4, e5⟩
  · refine ⟨es, ck, fun _ => 0, 0, none, 0, 0, h1, fun wx hx => ?_, fun wx hx => ?_, .inl ⟨e1, rfl, rfl, rfl, rfl, rfl⟩⟩
    · simp [Instr.lookup, run_underlying Tryz.underlying80, MapKept.run_getObj_map hx, Tryz.chk, findKey_eq, e2 _ 0, Result.andThen, e1]
      kernel_rfl
    · simp [Instr.lookup, run_underlying Tryz.underlying80, MapKept.run_getObj_map hx, Tryz.chk, findKey_eq, e2 _ 0, Result.andThen]
      kernel_rfl
  · obtain ⟨_, p, hp, hr, hk⟩ := e3
    obtain ⟨a, m, rfl⟩ := hr.form
    refine ⟨es, ck, v.id.f, v.ck, a, _, m, h1, fun wx hx => ?_, fun wx hx => ?_, .inr ⟨v, e1, rfl, rfl, hr, hk⟩⟩
    · simp [Instr.lookup, run_underlying Tryz.underlying80, MapKept.run_getObj_map hx, Tryz.chk, findKey_eq, e5 _ 0, hp, Result.andThen, e1]
    · simp [Instr.lookup, run_underlying Tryz.underlying80, MapKept.run_getObj_map hx, Tryz.chk, findKey_eq, e5 _ 0, hp, Result.andThen]
theorem grown_block {w : World} {b : Nat} {es : Array MapEntry} {ck : Nat} (h1 : w.heap[b]? = some (.map es ck)) (o : Obj) : Grown w { w with heap := w.heap.setIfInBounds b o } fun k => k = b :=
  ⟨rfl, rfl, rfl, by simp, fun k hk hb => by simp [Array.getElem?_setIfInBounds, Ne.symm hb]⟩
theorem upd_new {w : World} {Av : Nat → Prop} {b : Nat} {l : List VX} (h : MpAt w Av b l) (hA : Av b) (v : VX) (hv : l.find? (isV v.id) = none) (p : Value) (hp : HRow w p v.ps) (hk : ∀ k, p.ownBlock = some k → k < w.heap.size ∧ ¬ Av k) :
    ∃ w', (Instr.mapUpdate 80 (.map (some b)) (.agg (bytesA 32 v.id.f)) (.agg (vtx v.id.f v.ck p))).run Tryz.prog w = .ok () w' ∧ MpAt w' Av b (l ++ [v]) ∧ Grown w w' fun k => k = b := by
  obtain ⟨es, ck, h1, h2⟩ := h
  have hlt := (Array.getElem?_eq_some_iff.1 h1).1
  rcases find_spec v.id h2 with ⟨e1, e2⟩ | ⟨j, e, v', e1, _⟩
  · have hg := grown_block h1 (.map (es.push ⟨.agg (bytesA 32 v.id.f), .agg (vtx v.id.f v.ck p), ck⟩) (ck + 1))
    refine ⟨{ w with heap := w.heap.setIfInBounds b (.map (es.push ⟨.agg (bytesA 32 v.id.f), .agg (vtx v.id.f v.ck p), ck⟩) (ck + 1)) }, ?_, ⟨_, _, by simp [hlt]; exact ⟨rfl, rfl⟩, ?_⟩, hg⟩
    · simp [Instr.mapUpdate, run_underlying Tryz.underlying80, MapKept.run_getObj_map h1, Tryz.chk, findKey_eq, e2 _ 0, MapKept.run_setObj_map _ h1, Result.andThen]
    · rw [Array.toList_push]
      exact (Ents.app (w := w) (Av := Av) ⟨rfl, p, rfl, hp, hk⟩ h2).grown hg (fun k _ e => e ▸ hA) (fun k _ e => e)
  · rw [hv] at e1; cases e1
theorem len_any {w : World} {Av : Nat → Prop} {b : Nat} {l : List VX} (h : MpAt w Av b l) (ty : TypeId) : (Builtin.len_ #[80] ty #[.map (some b)]).run Tryz.prog w = .ok (.int .i64 (l.length : Int)) w := by
  obtain ⟨es, ck, h1, h2⟩ := h
  have := h2.len
  simp only [Array.length_toList] at this
  simp [Builtin.len_, run_underlying Tryz.underlying80, MapKept.run_getObj_map h1, Result.andThen, this, goInt]
def OwnH (w : World) (v : Value) (l : List Hs) : Prop := w.ownsRow 0 50 32 v l.length (flatH l)
theorem OwnH.form {w : World} {v : Value} {l : List Hs} (h : OwnH w v l) : (v = .slice none 0 0 ∧ l = []) ∨ ∃ g cap cur, v = .slice (some ⟨g, 0, none⟩) l.length cap ∧ Blk w g 50 cur ∧ l.length ≤ cap ∧ cur.toList.take (l.length * 32) = flatH l := by
  rcases h.2 with ⟨rfl, h0⟩ | ⟨g, cap, cur, rfl, _, h3, h4, h5, h6, h7⟩
  · exact .inl ⟨rfl, List.eq_nil_of_length_eq_zero h0⟩
  · exact .inr ⟨g, cap, cur, rfl, h3, h4, h7⟩
theorem OwnH.row {w : World} {v : Value} {l : List Hs} (h : OwnH w v l) : HRow w v l := HRow.of_owns h
theorem OwnH.sl {w : World} {v : Value} {l : List Hs} (h : OwnH w v l) : ∃ a c, v = .slice a l.length c := h.row.form
theorem OwnH.lt {w : World} {v : Value} {l : List Hs} (h : OwnH w v l) : ∀ k, v.ownBlock = some k → k < w.heap.size := fun k hk => (World.ownsRow.lt h k hk).2
theorem OwnH.grown {w w' : World} {v : Value} {l : List Hs} {S : Nat → Prop} (h : OwnH w v l) (hg : Grown w w' S) (hs : ∀ k, v.ownBlock = some k → ¬ S k) : OwnH w' v l := by
  refine ⟨h.1, ?_⟩
  rcases h.2 with h1 | ⟨g, cap, cur, rfl, h2, h3, h4⟩
  · exact .inl h1
  · exact .inr ⟨g, cap, cur, rfl, h2, hg.blk h3 (hs g rfl), h4⟩
theorem OwnH.below {w w' : World} {v : Value} {l : List Hs} (h : OwnH w v l) (hb : Below w.heap.size w w') : OwnH w' v l := h.grown (Grown.below (S := fun _ => False) hb) fun _ _ h => h
theorem OwnH.ne {w : World} {v : Value} {l : List Hs} {p : Nat} {T : TypeId} {cs : Array Value} (h : OwnH w v l) (hp : Blk w p T cs) (hT : T ≠ 50) : v.ownBlock ≠ some p := by
  intro e
  rcases h.form with ⟨rfl, _⟩ | ⟨g, cap, cur, rfl, h3, _⟩
  · simp [Value.ownBlock] at e
  · simp [Value.ownBlock] at e
    subst e
    exact hT (blk_type hp h3)
theorem Tryz.infoH : (Tryz.prog.info? 50).map (fun i => (i.zero, i.size, i.bytes)) = some (some (.agg (bytesA 32 fun _ => 0)), 32, 32) := by kernel_rfl
theorem run_appH (w : World) (ty : TypeId) (v : Value) (l : List Hs) (hown : OwnH w v l) (g : Nat) (x : Hs) (hg : Blk w g 50 (bytesA 32 x.f)) (hb : l.length ≤ 1000000000000) :
    ∃ v' w', (Builtin.append_ #[25, 25] ty #[v, .slice (some ⟨g, 0, none⟩) 1 1]).run Tryz.prog w = .ok v' w' ∧ OwnH w' v' (l ++ [x]) ∧ (Grown w w' fun k => v.ownBlock = some k) ∧ Moved w v v' := by
  obtain ⟨i, hi, hzz⟩ := Option.map_eq_some_iff.1 Tryz.infoH
  simp only [Prod.mk.injEq] at hzz
  obtain ⟨hz, hsz, hby⟩ := hzz
  have hzs : (Value.agg (bytesA 32 fun _ => 0)).cells.size = 32 := by show (bytesA 32 fun _ => 0).size = 32; exact bytesA_size _ _
  obtain ⟨v', w', hr, h1, h2, _, h3⟩ := run_append_own_at (P := Tryz.prog) w 0 25 ty 50 i (.agg (bytesA 32 fun _ => 0)) 32 32 Tryz.underlying25 hi hz hsz hby hzs (by omega) v l.length (flatH l) hown ⟨g, 0, none⟩ 1 1 (encH x) (by rw [encH_len]) (fun j u hu => by
      rw [Addr.add_mid, Nat.zero_add, hg.cell, ← Array.getElem?_toList]
      exact hu)
    (fun u hu => encH_one x u hu) (by unfold maxLen; omega) (by omega) (Nat.zero_le _)
  refine ⟨v', w', hr, ?_, Grown.of h2 fun k _ e => e, ?_⟩
  · unfold OwnH
    rw [List.length_append, flatH_app, show flatH [x] = encH x by simp [flatH]]
    exact h1
  · rcases h3 with h3 | h3
    · exact .inl h3
    · exact .inr ⟨_, h3, Nat.le_refl _⟩
theorem WL.appH {ops : Array Oper} {rest : List Oper} {o : Oper} {a : Act} {w : World} {Q : Exit → Act → World → Prop} (hw : Region.wanted o (yielded ops a.tmps) = true) (s x : Operand)
    (ho : o.op = .call { callee := .builtin .append, args := #[s, x], argTypes := #[25, 25] }) (v : Value) (l : List Hs) (g : Nat) (y : Hs)
    (hs : a.eval s = v) (hx : a.eval x = .slice (some ⟨g, 0, none⟩) 1 1) (hown : OwnH w v l) (hg : Blk w g 50 (bytesA 32 y.f)) (hb : l.length ≤ 1000000000000)
    (h : ∀ v' w', OwnH w' v' (l ++ [y]) → (Grown w w' fun k => v.ownBlock = some k) → Moved w v v' → WL Tryz.prog ops Q rest (a.put o.dst v') w') : WL Tryz.prog ops Q (o :: rest) a w :=
  ⟨wpList_wanted hw fun K hK => by
    obtain ⟨v', w', hr, h1, h2, h3⟩ := run_appH w o.type v l hown g y hg hb
    unfold Oper.wp execOp
    simp only [ho, resolve, invoke, builtin, Sem.run_bind, Sem.run_pure, Result.andThen_ok, List.map_toArray, List.map_cons, List.map_nil, hs, hx, hr]
    exact hK _ _ (h v' w' h1 h2 h3).out⟩
theorem bsH (x : Hs) (w : World) : (Instr.buildSlice 25 1 #[(0, .agg (bytesA 32 x.f))]).run Tryz.prog w = .ok (.slice (some ⟨w.heap.size, 0, none⟩) 1 1) (w.alloc (.cells (bytesA 32 x.f) 50)) := by kernel_rfl
theorem bsHE (w : World) : (Instr.buildSlice 25 0 #[]).run Tryz.prog w = .ok (.slice (some ⟨w.heap.size, 0, none⟩) 0 0) (w.alloc (.cells #[] 50)) := by kernel_rfl
theorem ownH_nil (w : World) : OwnH w (.slice none 0 0) [] := ownsH_nil w 0
theorem OwnH.typ {w : World} {v : Value} {l : List Hs} (h : OwnH w v l) {k : Nat} (hk : v.ownBlock = some k) : Typ w k 50 := by
  rcases h.form with ⟨rfl, _⟩ | ⟨g, cap, cur, rfl, h3, _⟩
  · simp [Value.ownBlock] at hk
  · simp [Value.ownBlock] at hk
    subst hk
    exact h3.typ
structure DG where
  room : Int
  hb : Nat
  wb : Nat
  hv : Value
  ov : Value
  qv : Value
  held : List VX
  wait : List VX
  heads : List Hs
  order : List Hs
  queue : List Hs
def dgA (g : DG) : Array Value := #[.int .i64 g.room, .map (some g.hb), g.hv, g.ov, .map (some g.wb), g.qv]
def DgS (d : Nat) (g : DG) (k : Nat) : Prop := k = d ∨ k = g.hb ∨ k = g.wb ∨ g.hv.ownBlock = some k ∨ g.ov.ownBlock = some k ∨ g.qv.ownBlock = some k
structure DagAt (w : World) (Av : Nat → Prop) (d : Nat) (g : DG) : Prop where
  blk : Blk w d 82 (dgA g)
  held : MpAt w Av g.hb g.held
  wait : MpAt w Av g.wb g.wait
  oh : OwnH w g.hv g.heads
  oo : OwnH w g.ov g.order
  oq : OwnH w g.qv g.queue
  mm : g.hb ≠ g.wb
  ho : ∀ k, g.hv.ownBlock = some k → g.ov.ownBlock ≠ some k
  hq : ∀ k, g.hv.ownBlock = some k → g.qv.ownBlock ≠ some k
  oq' : ∀ k, g.ov.ownBlock = some k → g.qv.ownBlock ≠ some k
  av : ∀ k, DgS d g k → Av k
  lt : ∀ k, Av k → k < w.heap.size
theorem DagAt.grown {w w' : World} {Av Av' S : Nat → Prop} {d : Nat} {g : DG} (h : DagAt w Av d g) (hg : Grown w w' S) (hn : ∀ k, S k → ¬ DgS d g k) (hS : ∀ k, k < w.heap.size → S k → Av k) (hA : ∀ k, k < w.heap.size → Av' k → Av k) (ha : ∀ k, DgS d g k → Av' k) (hl : ∀ k, Av' k → k < w'.heap.size) : DagAt w' Av' d g :=
  ⟨hg.blk h.blk fun e => hn _ e (.inl rfl), h.held.grown hg (fun e => hn _ e (.inr (.inl rfl))) hS hA, h.wait.grown hg (fun e => hn _ e (.inr (.inr (.inl rfl)))) hS hA,
    h.oh.grown hg (fun k hk e => hn _ e (.inr (.inr (.inr (.inl hk))))), h.oo.grown hg (fun k hk e => hn _ e (.inr (.inr (.inr (.inr (.inl hk)))))), h.oq.grown hg (fun k hk e => hn _ e (.inr (.inr (.inr (.inr (.inr hk)))))), h.mm, h.ho, h.hq, h.oq', ha, hl⟩
theorem DagAt.below {w w' : World} {Av : Nat → Prop} {d : Nat} {g : DG} (h : DagAt w Av d g) (hb : Below w.heap.size w w') : DagAt w' Av d g :=
  h.grown (Grown.below (S := fun _ => False) hb) (fun _ e => e.elim) (fun _ _ e => e.elim) (fun _ _ e => e) h.av fun k hk => Nat.lt_of_lt_of_le (h.lt k hk) hb.size
theorem DagAt.drew {w : World} {Av : Nat → Prop} {d : Nat} {g : DG} (h : DagAt w Av d g) : DagAt w.drew Av d g := h.below (Below.refl _ _).drew
theorem DagAt.form {w : World} {Av : Nat → Prop} {d : Nat} {g : DG} (h : DagAt w Av d g) : ∃ a1 c1 a2 c2 a3 c3, g.hv = .slice a1 g.heads.length c1 ∧ g.ov = .slice a2 g.order.length c2 ∧ g.qv = .slice a3 g.queue.length c3 := by
  obtain ⟨a1, c1, h1⟩ := h.oh.sl
  obtain ⟨a2, c2, h2⟩ := h.oo.sl
  obtain ⟨a3, c3, h3⟩ := h.oq.sl
  exact ⟨a1, c1, a2, c2, a3, c3, h1, h2, h3⟩
theorem wp_newA {P : Program} {o : Oper} {a : Act} {w : World} {K : Act → World → Prop} {Q : Exit → Act → World → Prop} (t : TypeId) (ho : o.op = .alloc t) (cells : Array Value)
    (hf : ∀ w : World, (Instr.alloc t true (.tuple #[])).run P w = .ok (.pointer (some ⟨w.heap.size, 0, none⟩)) (w.alloc (.cells cells t)))
    (h : K (a.put o.dst (.pointer (some ⟨w.heap.size, 0, none⟩))) (w.alloc (.cells cells t))) : o.wp P a w K Q := by
  unfold Oper.wp execOp
  simp only [ho, Sem.run_bind, hf w, Result.andThen_ok]
  exact h
theorem wp_cellS {P : Program} {Q : Exit → Act → World → Prop} {o : Oper} {a : Act} {w : World} {K : Act → World → Prop} (w' : World) (hrun : (execOp a.eval o).run P w = .ok .skip w') (h : K (a.put o.dst undef) w') : o.wp P a w K Q := by
  unfold Oper.wp; rw [hrun, Oper.upon_skip]; exact h
theorem yieldsIf_look {ops : Array Oper} {S : World → Prop} {op : Oper} {a : Act} (hw : Region.wanted op (yielded ops a.tmps) = true) (m k : Operand) (c : Bool) (ho : op.op = .lookup 80 m k c) (b : Nat) (x : Nat → Int) (hm : a.eval m = .map (some b)) (hk : a.eval k = .agg (bytesA 32 x)) (v : Value)
    (hS : ∀ w, S w → (Instr.lookup 80 (.map (some b)) (.agg (bytesA 32 x)) c).run Tryz.prog w = .ok v w) : YieldsIf Tryz.prog ops S op v a :=
  .inl ⟨hw, fun w hw' => by unfold execOp; simp only [ho, hm, hk, Sem.run_bind, hS w hw', Result.andThen_ok]; rfl⟩
theorem Tryz.info61s (c : Nat → Int) (k : Int) (p : Value) : (Tryz.prog.info? 61).map (·.size) = some (vtx c k p).size := by rw [vtx_size]; exact Tryz.size61
theorem size36B (c : Nat → Int) : (Tryz.prog.info? 50).map (·.size) = some (bytesA 32 c).toList.length := by rw [Array.length_toList, bytesA_size]; exact Tryz.size50
theorem yieldsIf_ld {ops : Array Oper} {S : World → Prop} {op : Oper} {a : Act} (hw : Region.wanted op (yielded ops a.tmps) = true) (x : Operand) (ty : TypeId) (ho : op.op = .load ty x) (b o : Nat) (hx : a.eval x = .pointer (some ⟨b, o, none⟩)) (cs : Array Value) (d : TypeDesc) (hu : Tryz.prog.underlying ty = some d) (hd : d.isRow = true) (hi : (Tryz.prog.info? ty).map (·.size) = some cs.size) (hS : ∀ w, S w → w.rangeAt b o cs.toList) : YieldsIf Tryz.prog ops S op (.agg cs) a := by
  have h := yieldsIf_load_mid (P := Tryz.prog) (ops := ops) (S := S) (op := op) (a := a) hw ty x ho b o hx cs.toList d hS hu hd (by rw [Array.length_toList]; exact hi)
  rw [Array.toArray_toList] at h
  exact h
theorem size36A (c : Nat → Int) : (Tryz.prog.info? 50).map (·.size) = some (bytesA 32 c).size := by rw [bytesA_size]; exact Tryz.size50
theorem Tryz.mkmap (w : World) : (Instr.makeMap 80 none).run Tryz.prog w = .ok (.map (some w.heap.size)) (w.alloc (.map #[] 0)) := rfl
theorem slice_one (a : Option Addr) (n c : Nat) : (Value.slice a n c).oneCell' = true := rfl
theorem blk_rng {w : World} {b : Nat} {T : TypeId} {cs : Array Value} (h : Blk w b T cs) : w.rangeAt b 0 cs.toList := blk_range h
theorem Tryz.in57 (w : World) (vs : Array Value) : (callFunc 57 vs).run Tryz.prog w = .ok (.enter 57 vs) w := by kernel_rfl
theorem Tryz.in58 (w : World) (vs : Array Value) : (callFunc 58 vs).run Tryz.prog w = .ok (.enter 58 vs) w := by kernel_rfl
theorem Tryz.in90 (w : World) (vs : Array Value) : (callFunc 90 vs).run Tryz.prog w = .ok (.enter 90 vs) w := by kernel_rfl
theorem Tryz.in36 (w : World) (vs : Array Value) : (callFunc 36 vs).run Tryz.prog w = .ok (.enter 36 vs) w := by kernel_rfl
theorem belowT {a b c : World} (h : Below a.heap.size a b) (h2 : Below b.heap.size b c) : Below a.heap.size a c := h.trans ⟨h2.os, h2.tape, h2.output, h2.size, fun k hk => h2.block k (Nat.lt_of_lt_of_le hk h.size)⟩
theorem dag_new (r : Int) (w : World) : DagAt (((w.alloc (.map #[] 0)).alloc (.map #[] 0)).alloc (.cells #[.int .i64 r, .map (some w.heap.size), .slice none 0 0, .slice none 0 0, .map (some (w.alloc (.map #[] 0)).heap.size), .slice none 0 0] 82)) (DgS ((w.alloc (.map #[] 0)).alloc (.map #[] 0)).heap.size ⟨r, w.heap.size, (w.alloc (.map #[] 0)).heap.size, .slice none 0 0, .slice none 0 0, .slice none 0 0, [], [], [], [], []⟩) ((w.alloc (.map #[] 0)).alloc (.map #[] 0)).heap.size ⟨r, w.heap.size, (w.alloc (.map #[] 0)).heap.size, .slice none 0 0, .slice none 0 0, .slice none 0 0, [], [], [], [], []⟩ := by
  have b1 := below_new w (.map #[] 0)
  have b2 := below_new (w.alloc (.map #[] 0)) (.map #[] 0)
  have b3 := below_new ((w.alloc (.map #[] 0)).alloc (.map #[] 0)) (.cells #[.int .i64 r, .map (some w.heap.size), .slice none 0 0, .slice none 0 0, .map (some (w.alloc (.map #[] 0)).heap.size), .slice none 0 0] 82)
  refine ⟨Blk.new _ _ _, ?_, ?_, ownH_nil _, ownH_nil _, ownH_nil _, ?_, ?_, ?_, ?_, fun _ h => h, ?_⟩
  · refine ⟨#[], 0, ?_, trivial⟩
    rw [b3.block _ (by simp; omega), b2.block _ (by simp)]; exact heap_alloc_new w _
  · refine ⟨#[], 0, ?_, trivial⟩
    rw [b3.block _ (by simp)]; exact heap_alloc_new _ _
  · simp
  · intro k h; cases h
  · intro k h; cases h
  · intro k h; cases h
  · rintro k (rfl | rfl | rfl | h | h | h)
    · simp
    · simp; omega
    · simp
    · cases h
    · cases h
    · cases h
theorem dgS_new {r : Int} {w : World} {k : Nat} (h : DgS ((w.alloc (.map #[] 0)).alloc (.map #[] 0)).heap.size ⟨r, w.heap.size, (w.alloc (.map #[] 0)).heap.size, .slice none 0 0, .slice none 0 0, .slice none 0 0, [], [], [], [], []⟩ k) : w.heap.size ≤ k := by
  rcases h with rfl | rfl | rfl | h | h | h
  · simp; omega
  · simp
  · simp
  · cases h
  · cases h
  · cases h
theorem new_any (r : Int) (w : World) : Calls Tryz.prog 9 #[.int .i64 r] w fun e w' =>
    ((r < 0 ∨ 64 < r) ∧ e = .returned (.tuple #[.pointer none, .int .i64 1]) ∧ w' = w) ∨
    (¬ (r < 0 ∨ 64 < r) ∧ ∃ d g, e = .returned (.tuple #[ptr d, .int .i64 0]) ∧ DagAt w' (DgS d g) d g ∧ g.room = r ∧ g.held = [] ∧ g.wait = [] ∧ g.heads = [] ∧ g.order = [] ∧ g.queue = [] ∧ Below w.heap.size w w' ∧ ∀ k, DgS d g k → w.heap.size ≤ k) := by
  go_enter Tryz.func9, Tryz.ntmps9
  refine wp_seq_k fun K1 hK1 => ?_
  refine wp_region_list (WL.out ?_)
  refine WL.val (by kernel_rfl) (.pointer none) (by go_simp) ?_
  simp only [Act.put, List.setIfInBounds_toArray, List.set_cons_zero, List.set_cons_succ]
  refine WL.val (by kernel_rfl) (.int .i64 0) (by go_simp) ?_
  simp only [Act.put, List.setIfInBounds_toArray, List.set_cons_zero, List.set_cons_succ]
  refine WL.nil ?_
  refine hK1 _ _ ?_
  refine wp_seq_k fun K2 hK2 => ?_
  refine wp_seq_k fun K3 hK3 => ?_
  refine wp_region_list (WL.out ?_)
  refine WL.val (by kernel_rfl) (.int .i64 r) (by go_simp) ?_
  simp only [Act.put, List.setIfInBounds_toArray, List.set_cons_zero, List.set_cons_succ]
  by_cases h1_1 : r < 0
  · skip
    refine WL.val (by kernel_rfl) (.bool true) (by go_simp) ?_
    simp only [Act.put, List.setIfInBounds_toArray, List.set_cons_zero, List.set_cons_succ]
    refine WL.val (by kernel_rfl) (.bool true) (by go_simp) ?_
    simp only [Act.put, List.setIfInBounds_toArray, List.set_cons_zero, List.set_cons_succ]
    refine WL.skip (by kernel_rfl) ?_
    simp only [Act.put, List.setIfInBounds_toArray, List.set_cons_zero, List.set_cons_succ]
    refine WL.skip (by kernel_rfl) ?_
    simp only [Act.put, List.setIfInBounds_toArray, List.set_cons_zero, List.set_cons_succ]
    refine WL.val (by kernel_rfl) (.bool true) (by go_simp) ?_
    simp only [Act.put, List.setIfInBounds_toArray, List.set_cons_zero, List.set_cons_succ]
    refine WL.nil ?_
    refine hK3 _ _ ?_
    refine wp_cond_true rfl ?_
    refine wp_seq_k fun K4 hK4 => ?_
    refine wp_region_list (WL.out ?_)
    refine WL.val (by kernel_rfl) (.pointer none) (by go_simp) ?_
    simp only [Act.put, List.setIfInBounds_toArray, List.set_cons_zero, List.set_cons_succ]
    refine WL.val (by kernel_rfl) (.int .i64 1) (by go_simp) ?_
    simp only [Act.put, List.setIfInBounds_toArray, List.set_cons_zero, List.set_cons_succ]
    refine WL.nil ?_
    refine hK4 _ _ ?_
    refine wp_ret ?_
    go_ret2
    exact .inl ⟨by omega, rfl, rfl⟩
  · skip
    refine WL.val (by kernel_rfl) (.bool false) (by go_simp) ?_
    simp only [Act.put, List.setIfInBounds_toArray, List.set_cons_zero, List.set_cons_succ]
    refine WL.val (by kernel_rfl) (.bool false) (by go_simp) ?_
    simp only [Act.put, List.setIfInBounds_toArray, List.set_cons_zero, List.set_cons_succ]
    refine WL.val (by kernel_rfl) (.int .i64 r) (by go_simp) ?_
    simp only [Act.put, List.setIfInBounds_toArray, List.set_cons_zero, List.set_cons_succ]
    by_cases h1_4 : 64 < r
    · skip
      refine WL.val (by kernel_rfl) (.bool true) (by go_simp) ?_
      simp only [Act.put, List.setIfInBounds_toArray, List.set_cons_zero, List.set_cons_succ]
      refine WL.val (by kernel_rfl) (.bool true) (by go_simp) ?_
      simp only [Act.put, List.setIfInBounds_toArray, List.set_cons_zero, List.set_cons_succ]
      refine WL.nil ?_
      refine hK3 _ _ ?_
      refine wp_cond_true rfl ?_
      refine wp_seq_k fun K5 hK5 => ?_
      refine wp_region_list (WL.out ?_)
      refine WL.val (by kernel_rfl) (.pointer none) (by go_simp) ?_
      simp only [Act.put, List.setIfInBounds_toArray, List.set_cons_zero, List.set_cons_succ]
      refine WL.val (by kernel_rfl) (.int .i64 1) (by go_simp) ?_
      simp only [Act.put, List.setIfInBounds_toArray, List.set_cons_zero, List.set_cons_succ]
      refine WL.nil ?_
      refine hK5 _ _ ?_
      refine wp_ret ?_
      go_ret2
      exact .inl ⟨by omega, rfl, rfl⟩
    · skip
      refine WL.val (by kernel_rfl) (.bool false) (by go_simp) ?_
      simp only [Act.put, List.setIfInBounds_toArray, List.set_cons_zero, List.set_cons_succ]
      refine WL.val (by kernel_rfl) (.bool false) (by go_simp) ?_
      simp only [Act.put, List.setIfInBounds_toArray, List.set_cons_zero, List.set_cons_succ]
      refine WL.nil ?_
      refine hK3 _ _ ?_
      refine wp_cond_false rfl ?_
      refine wp_skip ?_
      refine hK2 _ _ ?_
      refine wp_seq_k fun K6 hK6 => ?_
      refine wp_region_list (WL.out ?_)
      refine WL.val (by kernel_rfl) (.int .i64 r) (by go_simp) ?_
      simp only [Act.put, List.setIfInBounds_toArray, List.set_cons_zero, List.set_cons_succ]
      refine WL.valW (by kernel_rfl) (.map (some w.heap.size)) (w.alloc (.map #[] 0)) (by go_simp; rw [Tryz.mkmap]; rfl) ?_
      simp only [Act.put, List.setIfInBounds_toArray, List.set_cons_zero, List.set_cons_succ]
      obtain ⟨w1, hw1⟩ : ∃ wx, Keep (wx = w.alloc (.map #[] 0)) := ⟨_, ⟨rfl⟩⟩
      rw [← hw1.out]
      refine WL.valW (by kernel_rfl) (.map (some w1.heap.size)) (w1.alloc (.map #[] 0)) (by go_simp; rw [Tryz.mkmap]; rfl) ?_
      simp only [Act.put, List.setIfInBounds_toArray, List.set_cons_zero, List.set_cons_succ]
      refine WL.bld (by kernel_rfl) 82 _ rfl [(0, .int .i64 r), (1, .map (some w.heap.size)), (4, .map (some w1.heap.size))] (by simp [Act.eval]) (#[.int .i64 r, .map (some w.heap.size), .slice none 0 0, .slice none 0 0, .map (some w1.heap.size), .slice none 0 0]) (by kernel_rfl) ?_
      simp only [Act.put, List.setIfInBounds_toArray, List.set_cons_zero, List.set_cons_succ]
      obtain ⟨w2, hw2⟩ : ∃ wx, Keep (wx = w1.alloc (.map #[] 0)) := ⟨_, ⟨rfl⟩⟩
      rw [← hw2.out]
      refine WL.box (by kernel_rfl) 82 (.tmp 13) rfl (#[.int .i64 r, .map (some w.heap.size), .slice none 0 0, .slice none 0 0, .map (some w1.heap.size), .slice none 0 0]) rfl ?_
      simp only [Act.put, List.setIfInBounds_toArray, List.set_cons_zero, List.set_cons_succ]
      refine WL.val (by kernel_rfl) (.pointer (some ⟨w2.heap.size, 0, none⟩)) (by go_simp) ?_
      simp only [Act.put, List.setIfInBounds_toArray, List.set_cons_zero, List.set_cons_succ]
      refine WL.val (by kernel_rfl) (.int .i64 0) (by go_simp) ?_
      simp only [Act.put, List.setIfInBounds_toArray, List.set_cons_zero, List.set_cons_succ]
      refine WL.nil ?_
      refine hK6 _ _ ?_
      refine wp_ret ?_
      go_ret2
      refine .inr ⟨by omega, w2.heap.size, ⟨r, w.heap.size, w1.heap.size, .slice none 0 0, .slice none 0 0, .slice none 0 0, [], [], [], [], []⟩, rfl, ?_, rfl, rfl, rfl, rfl, rfl, rfl, ?_, ?_⟩
      all_goals rw [hw2.out, hw1.out]
      · exact dag_new r w
      · exact belowT (belowT (below_new w _) (below_new _ _)) (below_new _ _)
      · intro k hk; exact dgS_new hk
set_option maxRecDepth 8000 in
set_option maxHeartbeats 400000 in
theorem has_any (d : Nat) (x : Hs) (Av : Nat → Prop) (g : DG) (w : World) (hD : DagAt w Av d g) : Calls Tryz.prog 57 #[ptr d, .agg (bytesA 32 x.f)] w fun e w' => e = .returned (.bool (g.held.find? (isV x)).isSome) ∧ Below w.heap.size w w' := by
  have HD := Keep.mk hD
  clear hD
  go_enter Tryz.func57, Tryz.ntmps57
  refine wp_seq_k fun K1 hK1 => ?_
  refine wp_region_list (WL.out ?_)
  refine WL.box (by kernel_rfl) 50 (.tmp 1) rfl (bytesA 32 x.f) rfl ?_
  obtain ⟨w1, hwn⟩ : ∃ wx, Keep (wx = w.alloc (.cells (bytesA 32 x.f) 50)) := ⟨_, ⟨rfl⟩⟩
  rw [← hwn.out]
  have HX1 : Keep (Blk w1 w.heap.size 50 (bytesA 32 x.f)) := ⟨by rw [hwn.out]; exact Blk.new _ _ _⟩
  have LB1 : Keep (Below w.heap.size w w1) := ⟨by rw [hwn.out]; exact below_new _ _⟩
  clear hwn
  simp only [Act.put, List.setIfInBounds_toArray, List.set_cons_zero, List.set_cons_succ]
  refine WL.val (by kernel_rfl) (.bool false) (by go_simp) ?_
  simp only [Act.put, List.setIfInBounds_toArray, List.set_cons_zero, List.set_cons_succ]
  refine WL.nil ?_
  refine hK1 _ _ ?_
  refine wp_seq_k fun K2 hK2 => ?_
  have HD1 := Keep.mk (HD.out.below LB1.out)
  obtain ⟨es, ck, c0, k0, pa, pn, pm, hes, hl1, hl2, hcs⟩ := look1 HD1.out.held x
  obtain ⟨vv, hvv⟩ : ∃ a : Array Value, Keep (a = vtx c0 k0 (.slice pa pn pm)) := ⟨_, ⟨rfl⟩⟩
  obtain ⟨vz, hvz⟩ : ∃ a : Array Value, Keep (a = vtx (fun _ => 0) 0 (.slice none 0 0)) := ⟨_, ⟨rfl⟩⟩
  rw [← hvv.out] at hl1
  have H1 := Keep.mk hl1
  have hSB : Keep (∀ wx, Below w1.heap.size w1 wx → (fun wx => wx.cell? ⟨d, 1, none⟩ = some (.map (some g.hb)) ∧ wx.rangeAt w.heap.size 0 (bytesA 32 x.f).toList ∧ wx.heap[g.hb]? = some (.map es ck)) wx) := ⟨fun wx hb => ⟨(HD1.out.blk.below hb HD1.out.blk.lt).c 1 rfl, blk_rng (HX1.out.below hb HX1.out.lt), by rw [hb.block _ (Array.getElem?_eq_some_iff.1 hes).1]; exact hes⟩⟩
  have B1 : Keep (Below w1.heap.size w1 w1.drew) := ⟨(Below.refl _ _).drew⟩
  clear hl1 hl2 hcs hes
  refine wp_region_held_drew (S := fun wx => wx.cell? ⟨d, 1, none⟩ = some (.map (some g.hb)) ∧ wx.rangeAt w.heap.size 0 (bytesA 32 x.f).toList ∧ wx.heap[g.hb]? = some (.map es ck)) (by kernel_rfl) (hSB.out _ B1.out) (fun hHeld => ?_)
  refine wpAnyH_take (i := 0) (oi := ⟨some 8, Op.move (Operand.tmp 0), 41, _, _, none⟩) (v := .pointer (some ⟨d, 0, none⟩)) rfl (by kernel_rfl) (by kernel_rfl) (by kernel_rfl) (fun _ _ _ h => h) (Or.inl ⟨by rfl, fun w hS => by obtain ⟨hS1, hS2, hS3⟩ := hS; go_simp⟩) hHeld ?_
  simp only [Act.put, List.setIfInBounds_toArray, List.set_cons_zero, List.set_cons_succ]
  refine wpAnyH_take (i := 1) (oi := ⟨some 9, Op.nilCheck (Operand.tmp 8), 0, _, _, none⟩) (v := .pointer (some ⟨d, 0, none⟩)) rfl (by kernel_rfl) (by kernel_rfl) (by kernel_rfl) (fun _ _ _ h => h) (Or.inl ⟨by rfl, fun w hS => by obtain ⟨hS1, hS2, hS3⟩ := hS; go_simp⟩) hHeld ?_
  simp only [Act.put, List.setIfInBounds_toArray, List.set_cons_zero, List.set_cons_succ]
  refine wpAnyH_take (i := 2) (oi := ⟨some 10, Op.fieldAddr 82 (Operand.tmp 9) 1, 0, _, _, none⟩) (v := .pointer (some ⟨d, 1, none⟩)) rfl (by kernel_rfl) (by kernel_rfl) (by kernel_rfl) (fun _ _ _ h => h) (Or.inl ⟨by rfl, fun w hS => by obtain ⟨hS1, hS2, hS3⟩ := hS; go_simp⟩) hHeld ?_
  simp only [Act.put, List.setIfInBounds_toArray, List.set_cons_zero, List.set_cons_succ]
  refine wpAnyH_take (i := 3) (oi := ⟨some 11, Op.load 80 (Operand.tmp 10), 80, _, _, none⟩) (v := .map (some g.hb)) rfl (by kernel_rfl) (by kernel_rfl) (by kernel_rfl) (fun _ _ _ h => h) (Or.inl ⟨by rfl, fun w hS => by obtain ⟨hS1, hS2, hS3⟩ := hS; go_simp⟩) hHeld ?_
  simp only [Act.put, List.setIfInBounds_toArray, List.set_cons_zero, List.set_cons_succ]
  refine wpAnyH_take (i := 4) (oi := ⟨some 12, Op.load 50 (Operand.tmp 3), 50, _, _, none⟩) (v := .agg (bytesA 32 x.f)) rfl (by kernel_rfl) (by kernel_rfl) (by kernel_rfl) (fun _ _ _ h => h) (yieldsIf_ld (by rfl) (Operand.tmp 3) 50 rfl w.heap.size 0 rfl (bytesA 32 x.f) _ Tryz.underlying50 rfl (size36A _) fun w hS => hS.2.1) hHeld ?_
  simp only [Act.put, List.setIfInBounds_toArray, List.set_cons_zero, List.set_cons_succ]
  refine wpAnyH_take (i := 5) (oi := ⟨some 13, Op.lookup 80 (Operand.tmp 11) (Operand.tmp 12) true, 129, _, _, none⟩) (v := .tuple #[.agg vv, .bool (g.held.find? (isV x)).isSome]) rfl (by kernel_rfl) (by kernel_rfl) (by kernel_rfl) (fun _ _ _ h => h) (yieldsIf_look (by rfl) (Operand.tmp 11) (Operand.tmp 12) true rfl g.hb x.f rfl rfl _ fun wx hS => H1.out wx hS.2.2) hHeld ?_
  simp only [Act.put, List.setIfInBounds_toArray, List.set_cons_zero, List.set_cons_succ]
  refine wpAnyH_take (i := 6) (oi := ⟨some 7, Op.move (Operand.tmp 13), 129, _, _, none⟩) (v := .tuple #[.agg vv, .bool (g.held.find? (isV x)).isSome]) rfl (by kernel_rfl) (by kernel_rfl) (by kernel_rfl) (fun _ _ _ h => h) (Or.inl ⟨by rfl, fun w hS => by obtain ⟨hS1, hS2, hS3⟩ := hS; go_simp⟩) hHeld ?_
  simp only [Act.put, List.setIfInBounds_toArray, List.set_cons_zero, List.set_cons_succ]
  refine wpAnyH_take (i := 7) (oi := ⟨some 14, Op.extract (Operand.tmp 7) 0, 61, _, _, none⟩) (v := .agg vv) rfl (by kernel_rfl) (by kernel_rfl) (by kernel_rfl) (fun _ _ _ h => h) (Or.inl ⟨by rfl, fun w hS => by obtain ⟨hS1, hS2, hS3⟩ := hS; go_simp⟩) hHeld ?_
  simp only [Act.put, List.setIfInBounds_toArray, List.set_cons_zero, List.set_cons_succ]
  refine wpAnyH_take (i := 8) (oi := ⟨some 15, Op.extract (Operand.tmp 7) 1, 4, _, _, none⟩) (v := .bool (g.held.find? (isV x)).isSome) rfl (by kernel_rfl) (by kernel_rfl) (by kernel_rfl) (fun _ _ _ h => h) (Or.inl ⟨by rfl, fun w hS => by obtain ⟨hS1, hS2, hS3⟩ := hS; go_simp⟩) hHeld ?_
  simp only [Act.put, List.setIfInBounds_toArray, List.set_cons_zero, List.set_cons_succ]
  refine wpAnyH_ready (rs := [9]) (by kernel_rfl) (by simp) ?_
  refine AllReadyH.cons (o := ⟨some 5, Op.alloc 61, 0, _, _, none⟩) rfl (fun K hK => ?_) AllReadyH.nil
  rw [if_pos (by rfl)]
  refine wp_newA 61 rfl vz (by rw [hvz.out]; exact Tryz.new61) ?_
  have B2 := Keep.mk (B1.out.alloc (Nat.le_refl _) (.cells vz 61))
  obtain ⟨w2, hw2⟩ : ∃ wx, Keep (wx = w1.drew.alloc (.cells vz 61)) := ⟨_, ⟨rfl⟩⟩
  rw [← hw2.out]
  have HB2 : Keep (Blk w2 w1.drew.heap.size 61 vz) := ⟨by rw [hw2.out]; exact Blk.new _ _ _⟩
  have B2 : Keep (Below w1.heap.size w1 w2) := ⟨by rw [hw2.out]; exact B2.out⟩
  have hL1 : Keep (w1.heap.size ≤ w1.drew.heap.size) := ⟨Nat.le_refl _⟩
  clear hw2
  generalize w1.drew.heap.size = n1 at *
  refine hK _ _ (hSB.out _ B2.out) fun hH1 => ?_
  clear hK
  simp only [Act.put, List.setIfInBounds_toArray, List.set_cons_zero, List.set_cons_succ]
  refine wpAnyH_ready (rs := [10]) (by kernel_rfl) (by simp) ?_
  refine AllReadyH.cons (o := ⟨none, Op.store 61 (Operand.tmp 5) (Operand.tmp 14), 0, _, _, none⟩) rfl (fun K hK => ?_) AllReadyH.nil
  rw [if_pos (by rfl)]
  refine wp_store_row 61 (Operand.tmp 5) (Operand.tmp 14) rfl n1 vv rfl rfl 61 vz HB2.out (by rw [hvv.out]; exact Tryz.info61s _ _ _) (by rw [hvv.out, hvz.out, vtx_size, vtx_size]) (by rw [hvv.out]; exact vtx_one _ _ _ (slice_one _ _ _)) ?_
  have B3 := Keep.mk (below_setRow B2.out hL1.out vv)
  refine hK _ _ (hSB.out _ B3.out) fun hH2 => ?_
  clear hK
  simp only [Act.put, List.setIfInBounds_toArray, List.set_cons_zero, List.set_cons_succ]
  refine wpAnyH_take (i := 11) (oi := ⟨some 6, Op.assign (Operand.tmp 15), 4, _, _, none⟩) (v := .bool (g.held.find? (isV x)).isSome) rfl (by kernel_rfl) (by kernel_rfl) (by kernel_rfl) (fun _ _ _ h => h) (Or.inl ⟨by rfl, fun w hS => by obtain ⟨hS1, hS2, hS3⟩ := hS; go_simp⟩) hH2 ?_
  simp only [Act.put, List.setIfInBounds_toArray, List.set_cons_zero, List.set_cons_succ]
  refine wpAnyH_done (by kernel_rfl) ?_ _
  refine hK2 _ _ ?_
  refine wp_seq_k fun K3 hK3 => ?_
  refine wp_region_list (WL.out ?_)
  refine WL.val (by kernel_rfl) (.bool (g.held.find? (isV x)).isSome) (by go_simp) ?_
  simp only [Act.put, List.setIfInBounds_toArray, List.set_cons_zero, List.set_cons_succ]
  refine WL.val (by kernel_rfl) (.bool (g.held.find? (isV x)).isSome) (by go_simp) ?_
  simp only [Act.put, List.setIfInBounds_toArray, List.set_cons_zero, List.set_cons_succ]
  refine WL.nil ?_
  refine hK3 _ _ ?_
  refine wp_ret ?_
  go_ret
  exact ⟨rfl, belowT LB1.out B3.out⟩
set_option maxRecDepth 8000 in
set_option maxHeartbeats 400000 in
theorem waits_any (d : Nat) (x : Hs) (Av : Nat → Prop) (g : DG) (w : World) (hD : DagAt w Av d g) : Calls Tryz.prog 58 #[ptr d, .agg (bytesA 32 x.f)] w fun e w' => e = .returned (.bool (g.wait.find? (isV x)).isSome) ∧ Below w.heap.size w w' := by
  have HD := Keep.mk hD
  clear hD
  go_enter Tryz.func58, Tryz.ntmps58
  refine wp_seq_k fun K1 hK1 => ?_
  refine wp_region_list (WL.out ?_)
  refine WL.box (by kernel_rfl) 50 (.tmp 1) rfl (bytesA 32 x.f) rfl ?_
  obtain ⟨w1, hwn⟩ : ∃ wx, Keep (wx = w.alloc (.cells (bytesA 32 x.f) 50)) := ⟨_, ⟨rfl⟩⟩
  rw [← hwn.out]
  have HX1 : Keep (Blk w1 w.heap.size 50 (bytesA 32 x.f)) := ⟨by rw [hwn.out]; exact Blk.new _ _ _⟩
  have LB1 : Keep (Below w.heap.size w w1) := ⟨by rw [hwn.out]; exact below_new _ _⟩
  clear hwn
  simp only [Act.put, List.setIfInBounds_toArray, List.set_cons_zero, List.set_cons_succ]
  refine WL.val (by kernel_rfl) (.bool false) (by go_simp) ?_
  simp only [Act.put, List.setIfInBounds_toArray, List.set_cons_zero, List.set_cons_succ]
  refine WL.nil ?_
  refine hK1 _ _ ?_
  refine wp_seq_k fun K2 hK2 => ?_
  have HD1 := Keep.mk (HD.out.below LB1.out)
  obtain ⟨es, ck, c0, k0, pa, pn, pm, hes, hl1, hl2, hcs⟩ := look1 HD1.out.wait x
  obtain ⟨vv, hvv⟩ : ∃ a : Array Value, Keep (a = vtx c0 k0 (.slice pa pn pm)) := ⟨_, ⟨rfl⟩⟩
  obtain ⟨vz, hvz⟩ : ∃ a : Array Value, Keep (a = vtx (fun _ => 0) 0 (.slice none 0 0)) := ⟨_, ⟨rfl⟩⟩
  rw [← hvv.out] at hl1
  have H1 := Keep.mk hl1
  have hSB : Keep (∀ wx, Below w1.heap.size w1 wx → (fun wx => wx.cell? ⟨d, 4, none⟩ = some (.map (some g.wb)) ∧ wx.rangeAt w.heap.size 0 (bytesA 32 x.f).toList ∧ wx.heap[g.wb]? = some (.map es ck)) wx) := ⟨fun wx hb => ⟨(HD1.out.blk.below hb HD1.out.blk.lt).c 4 rfl, blk_rng (HX1.out.below hb HX1.out.lt), by rw [hb.block _ (Array.getElem?_eq_some_iff.1 hes).1]; exact hes⟩⟩
  have B1 : Keep (Below w1.heap.size w1 w1.drew) := ⟨(Below.refl _ _).drew⟩
  clear hl1 hl2 hcs hes
  refine wp_region_held_drew (S := fun wx => wx.cell? ⟨d, 4, none⟩ = some (.map (some g.wb)) ∧ wx.rangeAt w.heap.size 0 (bytesA 32 x.f).toList ∧ wx.heap[g.wb]? = some (.map es ck)) (by kernel_rfl) (hSB.out _ B1.out) (fun hHeld => ?_)
  refine wpAnyH_take (i := 0) (oi := ⟨some 8, Op.move (Operand.tmp 0), 41, _, _, none⟩) (v := .pointer (some ⟨d, 0, none⟩)) rfl (by kernel_rfl) (by kernel_rfl) (by kernel_rfl) (fun _ _ _ h => h) (Or.inl ⟨by rfl, fun w hS => by obtain ⟨hS1, hS2, hS3⟩ := hS; go_simp⟩) hHeld ?_
  simp only [Act.put, List.setIfInBounds_toArray, List.set_cons_zero, List.set_cons_succ]
  refine wpAnyH_take (i := 1) (oi := ⟨some 9, Op.nilCheck (Operand.tmp 8), 0, _, _, none⟩) (v := .pointer (some ⟨d, 0, none⟩)) rfl (by kernel_rfl) (by kernel_rfl) (by kernel_rfl) (fun _ _ _ h => h) (Or.inl ⟨by rfl, fun w hS => by obtain ⟨hS1, hS2, hS3⟩ := hS; go_simp⟩) hHeld ?_
  simp only [Act.put, List.setIfInBounds_toArray, List.set_cons_zero, List.set_cons_succ]
  refine wpAnyH_take (i := 2) (oi := ⟨some 10, Op.fieldAddr 82 (Operand.tmp 9) 4, 0, _, _, none⟩) (v := .pointer (some ⟨d, 4, none⟩)) rfl (by kernel_rfl) (by kernel_rfl) (by kernel_rfl) (fun _ _ _ h => h) (Or.inl ⟨by rfl, fun w hS => by obtain ⟨hS1, hS2, hS3⟩ := hS; go_simp⟩) hHeld ?_
  simp only [Act.put, List.setIfInBounds_toArray, List.set_cons_zero, List.set_cons_succ]
  refine wpAnyH_take (i := 3) (oi := ⟨some 11, Op.load 80 (Operand.tmp 10), 80, _, _, none⟩) (v := .map (some g.wb)) rfl (by kernel_rfl) (by kernel_rfl) (by kernel_rfl) (fun _ _ _ h => h) (Or.inl ⟨by rfl, fun w hS => by obtain ⟨hS1, hS2, hS3⟩ := hS; go_simp⟩) hHeld ?_
  simp only [Act.put, List.setIfInBounds_toArray, List.set_cons_zero, List.set_cons_succ]
  refine wpAnyH_take (i := 4) (oi := ⟨some 12, Op.load 50 (Operand.tmp 3), 50, _, _, none⟩) (v := .agg (bytesA 32 x.f)) rfl (by kernel_rfl) (by kernel_rfl) (by kernel_rfl) (fun _ _ _ h => h) (yieldsIf_ld (by rfl) (Operand.tmp 3) 50 rfl w.heap.size 0 rfl (bytesA 32 x.f) _ Tryz.underlying50 rfl (size36A _) fun w hS => hS.2.1) hHeld ?_
  simp only [Act.put, List.setIfInBounds_toArray, List.set_cons_zero, List.set_cons_succ]
  refine wpAnyH_take (i := 5) (oi := ⟨some 13, Op.lookup 80 (Operand.tmp 11) (Operand.tmp 12) true, 129, _, _, none⟩) (v := .tuple #[.agg vv, .bool (g.wait.find? (isV x)).isSome]) rfl (by kernel_rfl) (by kernel_rfl) (by kernel_rfl) (fun _ _ _ h => h) (yieldsIf_look (by rfl) (Operand.tmp 11) (Operand.tmp 12) true rfl g.wb x.f rfl rfl _ fun wx hS => H1.out wx hS.2.2) hHeld ?_
  simp only [Act.put, List.setIfInBounds_toArray, List.set_cons_zero, List.set_cons_succ]
  refine wpAnyH_take (i := 6) (oi := ⟨some 7, Op.move (Operand.tmp 13), 129, _, _, none⟩) (v := .tuple #[.agg vv, .bool (g.wait.find? (isV x)).isSome]) rfl (by kernel_rfl) (by kernel_rfl) (by kernel_rfl) (fun _ _ _ h => h) (Or.inl ⟨by rfl, fun w hS => by obtain ⟨hS1, hS2, hS3⟩ := hS; go_simp⟩) hHeld ?_
  simp only [Act.put, List.setIfInBounds_toArray, List.set_cons_zero, List.set_cons_succ]
  refine wpAnyH_take (i := 7) (oi := ⟨some 14, Op.extract (Operand.tmp 7) 0, 61, _, _, none⟩) (v := .agg vv) rfl (by kernel_rfl) (by kernel_rfl) (by kernel_rfl) (fun _ _ _ h => h) (Or.inl ⟨by rfl, fun w hS => by obtain ⟨hS1, hS2, hS3⟩ := hS; go_simp⟩) hHeld ?_
  simp only [Act.put, List.setIfInBounds_toArray, List.set_cons_zero, List.set_cons_succ]
  refine wpAnyH_take (i := 8) (oi := ⟨some 15, Op.extract (Operand.tmp 7) 1, 4, _, _, none⟩) (v := .bool (g.wait.find? (isV x)).isSome) rfl (by kernel_rfl) (by kernel_rfl) (by kernel_rfl) (fun _ _ _ h => h) (Or.inl ⟨by rfl, fun w hS => by obtain ⟨hS1, hS2, hS3⟩ := hS; go_simp⟩) hHeld ?_
  simp only [Act.put, List.setIfInBounds_toArray, List.set_cons_zero, List.set_cons_succ]
  refine wpAnyH_ready (rs := [9]) (by kernel_rfl) (by simp) ?_
  refine AllReadyH.cons (o := ⟨some 5, Op.alloc 61, 0, _, _, none⟩) rfl (fun K hK => ?_) AllReadyH.nil
  rw [if_pos (by rfl)]
  refine wp_newA 61 rfl vz (by rw [hvz.out]; exact Tryz.new61) ?_
  have B2 := Keep.mk (B1.out.alloc (Nat.le_refl _) (.cells vz 61))
  obtain ⟨w2, hw2⟩ : ∃ wx, Keep (wx = w1.drew.alloc (.cells vz 61)) := ⟨_, ⟨rfl⟩⟩
  rw [← hw2.out]
  have HB2 : Keep (Blk w2 w1.drew.heap.size 61 vz) := ⟨by rw [hw2.out]; exact Blk.new _ _ _⟩
  have B2 : Keep (Below w1.heap.size w1 w2) := ⟨by rw [hw2.out]; exact B2.out⟩
  have hL1 : Keep (w1.heap.size ≤ w1.drew.heap.size) := ⟨Nat.le_refl _⟩
  clear hw2
  generalize w1.drew.heap.size = n1 at *
  refine hK _ _ (hSB.out _ B2.out) fun hH1 => ?_
  clear hK
  simp only [Act.put, List.setIfInBounds_toArray, List.set_cons_zero, List.set_cons_succ]
  refine wpAnyH_ready (rs := [10]) (by kernel_rfl) (by simp) ?_
  refine AllReadyH.cons (o := ⟨none, Op.store 61 (Operand.tmp 5) (Operand.tmp 14), 0, _, _, none⟩) rfl (fun K hK => ?_) AllReadyH.nil
  rw [if_pos (by rfl)]
  refine wp_store_row 61 (Operand.tmp 5) (Operand.tmp 14) rfl n1 vv rfl rfl 61 vz HB2.out (by rw [hvv.out]; exact Tryz.info61s _ _ _) (by rw [hvv.out, hvz.out, vtx_size, vtx_size]) (by rw [hvv.out]; exact vtx_one _ _ _ (slice_one _ _ _)) ?_
  have B3 := Keep.mk (below_setRow B2.out hL1.out vv)
  refine hK _ _ (hSB.out _ B3.out) fun hH2 => ?_
  clear hK
  simp only [Act.put, List.setIfInBounds_toArray, List.set_cons_zero, List.set_cons_succ]
  refine wpAnyH_take (i := 11) (oi := ⟨some 6, Op.assign (Operand.tmp 15), 4, _, _, none⟩) (v := .bool (g.wait.find? (isV x)).isSome) rfl (by kernel_rfl) (by kernel_rfl) (by kernel_rfl) (fun _ _ _ h => h) (Or.inl ⟨by rfl, fun w hS => by obtain ⟨hS1, hS2, hS3⟩ := hS; go_simp⟩) hH2 ?_
  simp only [Act.put, List.setIfInBounds_toArray, List.set_cons_zero, List.set_cons_succ]
  refine wpAnyH_done (by kernel_rfl) ?_ _
  refine hK2 _ _ ?_
  refine wp_seq_k fun K3 hK3 => ?_
  refine wp_region_list (WL.out ?_)
  refine WL.val (by kernel_rfl) (.bool (g.wait.find? (isV x)).isSome) (by go_simp) ?_
  simp only [Act.put, List.setIfInBounds_toArray, List.set_cons_zero, List.set_cons_succ]
  refine WL.val (by kernel_rfl) (.bool (g.wait.find? (isV x)).isSome) (by go_simp) ?_
  simp only [Act.put, List.setIfInBounds_toArray, List.set_cons_zero, List.set_cons_succ]
  refine WL.nil ?_
  refine hK3 _ _ ?_
  refine wp_ret ?_
  go_ret
  exact ⟨rfl, belowT LB1.out B3.out⟩
def ckOf (l : List VX) (x : Hs) : Int := match l.find? (isV x) with
  | some v => v.ck
  | none => 0
theorem fld_ck (c : Nat → Int) (k : Int) (p : Value) (w : World) : (Instr.field 61 (.agg (vtx c k p)) 1).run Tryz.prog w = .ok (.int .i64 k) w := by kernel_rfl
theorem yieldsIf_fld {ops : Array Oper} {S : World → Prop} {op : Oper} {a : Act} (hw : Region.wanted op (yielded ops a.tmps) = true) (x : Operand) (t : TypeId) (i : Nat) (ho : op.op = .field t x i) (v u : Value) (hv : a.eval x = v) (hr : ∀ w : World, (Instr.field t v i).run Tryz.prog w = .ok u w) : YieldsIf Tryz.prog ops S op u a :=
  .inl ⟨hw, fun w hw' => by unfold execOp; simp only [ho, hv, Sem.run_bind, hr w, Result.andThen_ok, Sem.run_pure]⟩
set_option maxRecDepth 8000 in
set_option maxHeartbeats 400000 in
theorem clock_any (d : Nat) (x : Hs) (Av : Nat → Prop) (g : DG) (w : World) (hD : DagAt w Av d g) : Calls Tryz.prog 90 #[ptr d, .agg (bytesA 32 x.f)] w fun e w' => e = .returned (.int .i64 (ckOf g.held x)) ∧ Below w.heap.size w w' := by
  have HD := Keep.mk hD
  clear hD
  go_enter Tryz.func90, Tryz.ntmps90
  refine wp_seq_k fun K1 hK1 => ?_
  refine wp_region_list (WL.out ?_)
  refine WL.box (by kernel_rfl) 50 (.tmp 1) rfl (bytesA 32 x.f) rfl ?_
  obtain ⟨w1, hwn⟩ : ∃ wx, Keep (wx = w.alloc (.cells (bytesA 32 x.f) 50)) := ⟨_, ⟨rfl⟩⟩
  rw [← hwn.out]
  have HX1 : Keep (Blk w1 w.heap.size 50 (bytesA 32 x.f)) := ⟨by rw [hwn.out]; exact Blk.new _ _ _⟩
  have LB1 : Keep (Below w.heap.size w w1) := ⟨by rw [hwn.out]; exact below_new _ _⟩
  clear hwn
  simp only [Act.put, List.setIfInBounds_toArray, List.set_cons_zero, List.set_cons_succ]
  refine WL.val (by kernel_rfl) (.int .i64 0) (by go_simp) ?_
  simp only [Act.put, List.setIfInBounds_toArray, List.set_cons_zero, List.set_cons_succ]
  refine WL.nil ?_
  refine hK1 _ _ ?_
  refine wp_seq_k fun K2 hK2 => ?_
  have HD1 := Keep.mk (HD.out.below LB1.out)
  obtain ⟨es, ck, c0, k0, pa, pn, pm, hes, hl1, hl2, hcs⟩ := look1 HD1.out.held x
  obtain ⟨vv, hvv⟩ : ∃ a : Array Value, Keep (a = vtx c0 k0 (.slice pa pn pm)) := ⟨_, ⟨rfl⟩⟩
  rw [← hvv.out] at hl2
  have H1 := Keep.mk hl2
  have HC := Keep.mk hcs
  have hSB : Keep ((fun wx => wx.cell? ⟨d, 1, none⟩ = some (.map (some g.hb)) ∧ wx.rangeAt w.heap.size 0 (bytesA 32 x.f).toList ∧ wx.heap[g.hb]? = some (.map es ck)) w1.drew) := ⟨⟨HD1.out.blk.drew.c 1 rfl, blk_rng HX1.out.drew, hes⟩⟩
  clear hl1 hl2 hcs hes
  refine wp_region_held_drew (S := fun wx => wx.cell? ⟨d, 1, none⟩ = some (.map (some g.hb)) ∧ wx.rangeAt w.heap.size 0 (bytesA 32 x.f).toList ∧ wx.heap[g.hb]? = some (.map es ck)) (by kernel_rfl) (hSB.out) (fun hHeld => ?_)
  refine wpAnyH_take (i := 0) (oi := ⟨some 5, Op.move (Operand.tmp 0), 41, _, _, none⟩) (v := .pointer (some ⟨d, 0, none⟩)) rfl (by kernel_rfl) (by kernel_rfl) (by kernel_rfl) (fun _ _ _ h => h) (Or.inl ⟨by rfl, fun w hS => by obtain ⟨hS1, hS2, hS3⟩ := hS; go_simp⟩) hHeld ?_
  simp only [Act.put, List.setIfInBounds_toArray, List.set_cons_zero, List.set_cons_succ]
  refine wpAnyH_take (i := 1) (oi := ⟨some 6, Op.nilCheck (Operand.tmp 5), 0, _, _, none⟩) (v := .pointer (some ⟨d, 0, none⟩)) rfl (by kernel_rfl) (by kernel_rfl) (by kernel_rfl) (fun _ _ _ h => h) (Or.inl ⟨by rfl, fun w hS => by obtain ⟨hS1, hS2, hS3⟩ := hS; go_simp⟩) hHeld ?_
  simp only [Act.put, List.setIfInBounds_toArray, List.set_cons_zero, List.set_cons_succ]
  refine wpAnyH_take (i := 2) (oi := ⟨some 7, Op.fieldAddr 82 (Operand.tmp 6) 1, 0, _, _, none⟩) (v := .pointer (some ⟨d, 1, none⟩)) rfl (by kernel_rfl) (by kernel_rfl) (by kernel_rfl) (fun _ _ _ h => h) (Or.inl ⟨by rfl, fun w hS => by obtain ⟨hS1, hS2, hS3⟩ := hS; go_simp⟩) hHeld ?_
  simp only [Act.put, List.setIfInBounds_toArray, List.set_cons_zero, List.set_cons_succ]
  refine wpAnyH_take (i := 3) (oi := ⟨some 8, Op.load 80 (Operand.tmp 7), 80, _, _, none⟩) (v := .map (some g.hb)) rfl (by kernel_rfl) (by kernel_rfl) (by kernel_rfl) (fun _ _ _ h => h) (Or.inl ⟨by rfl, fun w hS => by obtain ⟨hS1, hS2, hS3⟩ := hS; go_simp⟩) hHeld ?_
  simp only [Act.put, List.setIfInBounds_toArray, List.set_cons_zero, List.set_cons_succ]
  refine wpAnyH_take (i := 4) (oi := ⟨some 9, Op.load 50 (Operand.tmp 3), 50, _, _, none⟩) (v := .agg (bytesA 32 x.f)) rfl (by kernel_rfl) (by kernel_rfl) (by kernel_rfl) (fun _ _ _ h => h) (yieldsIf_ld (by rfl) (Operand.tmp 3) 50 rfl w.heap.size 0 rfl (bytesA 32 x.f) _ Tryz.underlying50 rfl (size36A _) fun w hS => hS.2.1) hHeld ?_
  simp only [Act.put, List.setIfInBounds_toArray, List.set_cons_zero, List.set_cons_succ]
  refine wpAnyH_take (i := 5) (oi := ⟨some 10, Op.lookup 80 (Operand.tmp 8) (Operand.tmp 9) false, 61, _, _, none⟩) (v := .agg vv) rfl (by kernel_rfl) (by kernel_rfl) (by kernel_rfl) (fun _ _ _ h => h) (yieldsIf_look (by rfl) (Operand.tmp 8) (Operand.tmp 9) false rfl g.hb x.f rfl rfl _ fun wx hS => H1.out wx hS.2.2) hHeld ?_
  simp only [Act.put, List.setIfInBounds_toArray, List.set_cons_zero, List.set_cons_succ]
  refine wpAnyH_take (i := 6) (oi := ⟨some 11, Op.field 61 (Operand.tmp 10) 1, 3, _, _, none⟩) (v := .int .i64 k0) rfl (by kernel_rfl) (by kernel_rfl) (by kernel_rfl) (fun _ _ _ h => h) (yieldsIf_fld (by rfl) (Operand.tmp 10) 61 1 rfl (.agg vv) (.int .i64 k0) rfl fun w => by rw [hvv.out]; exact fld_ck _ _ _ w) hHeld ?_
  simp only [Act.put, List.setIfInBounds_toArray, List.set_cons_zero, List.set_cons_succ]
  refine wpAnyH_take (i := 7) (oi := ⟨some 4, Op.assign (Operand.tmp 11), 3, _, _, none⟩) (v := .int .i64 k0) rfl (by kernel_rfl) (by kernel_rfl) (by kernel_rfl) (fun _ _ _ h => h) (Or.inl ⟨by rfl, fun w hS => by obtain ⟨hS1, hS2, hS3⟩ := hS; go_simp⟩) hHeld ?_
  simp only [Act.put, List.setIfInBounds_toArray, List.set_cons_zero, List.set_cons_succ]
  refine wpAnyH_done (by kernel_rfl) ?_ _
  refine hK2 _ _ ?_
  refine wp_ret ?_
  go_ret
  refine ⟨?_, LB1.out.drew⟩
  rcases HC.out with ⟨h1, _, h2, _⟩ | ⟨v, h1, _, h2, _⟩
  · rw [ckOf, h1, h2]; rfl
  · rw [ckOf, h1, h2]; rfl
theorem dlen_any (d : Nat) (Av : Nat → Prop) (g : DG) (w : World) (hD : DagAt w Av d g) : Calls Tryz.prog 36 #[ptr d] w fun e w' => e = .returned (.int .i64 (g.held.length : Int)) ∧ w' = w := by
  have HD := Keep.mk hD
  clear hD
  go_enter Tryz.func36, Tryz.ntmps36
  have c1 := HD.out.blk.c 1 (by rfl : (dgA g)[1]? = some (.map (some g.hb)))
  refine wp_seq_k fun K1 hK1 => ?_
  refine wp_region_list (WL.out ?_)
  refine WL.val (by kernel_rfl) (.int .i64 0) (by go_simp) ?_
  simp only [Act.put, List.setIfInBounds_toArray, List.set_cons_zero, List.set_cons_succ]
  refine WL.nil ?_
  refine hK1 _ _ ?_
  refine wp_seq_k fun K2 hK2 => ?_
  refine wp_region_list (WL.out ?_)
  refine WL.val (by kernel_rfl) (.pointer (some ⟨d, 0, none⟩)) (by go_simp) ?_
  simp only [Act.put, List.setIfInBounds_toArray, List.set_cons_zero, List.set_cons_succ]
  refine WL.val (by kernel_rfl) (.pointer (some ⟨d, 0, none⟩)) (by go_simp) ?_
  simp only [Act.put, List.setIfInBounds_toArray, List.set_cons_zero, List.set_cons_succ]
  refine WL.val (by kernel_rfl) (.pointer (some ⟨d, 1, none⟩)) (by go_simp) ?_
  simp only [Act.put, List.setIfInBounds_toArray, List.set_cons_zero, List.set_cons_succ]
  refine WL.val (by kernel_rfl) (.map (some g.hb)) (by go_simp) ?_
  simp only [Act.put, List.setIfInBounds_toArray, List.set_cons_zero, List.set_cons_succ]
  refine WL.val (by kernel_rfl) (.int .i64 (g.held.length : Int)) (by go_simp; rw [len_any HD.out.held]; rfl) ?_
  simp only [Act.put, List.setIfInBounds_toArray, List.set_cons_zero, List.set_cons_succ]
  refine WL.val (by kernel_rfl) (.int .i64 (g.held.length : Int)) (by go_simp) ?_
  simp only [Act.put, List.setIfInBounds_toArray, List.set_cons_zero, List.set_cons_succ]
  refine WL.nil ?_
  refine hK2 _ _ ?_
  refine wp_ret ?_
  go_ret
  exact ⟨rfl, rfl⟩
end Go.Proofs.YtdkhjeofjhcceaaGreatDoor
